/-
  Helpers, merged: NumsR, Wds, ArcsOf, CmdH, Skips, CmdS, Steps.
-/
import Derived.Test.YticckgmkhgnmfaaDoorPack5
import Derived.WalkMore
import Derived.Test.YticckgmkhgnmfaaDoorPack2
import Derived.Deep.RegionHeld3
import Derived.Test.YticckgmkhgnmfaaDoorPack1
import Derived.Deep.DrawnRows
import Derived.Deep.RegionLaw
import Derived.Deep.RegionWith
import Derived.BigQuiet
import Derived.Deep.QuietTactic
import Derived.Test.YticckgmkhgnmfaaDoorRows
import Derived.Deep.RegionHeld
/-
  The document's numbers of a text, all of them: a list of the call's own.
-/
set_option linter.unusedVariables false
set_option linter.unusedSimpArgs false
namespace Go.Proofs.YticckgmkhgnmfaaDoor
open Go.RowKit
attribute [local go_sem ↓] Go.wp_at_zero Go.wp_at_succ

def gd (ns : List Int) (j : Nat) : Int := ns.getD j 0
theorem gd_snoc_lt {ns : List Int} {n : Int} {j : Nat} (h : j < ns.length) : gd (ns ++ [n]) j = gd ns j := by
  simp [gd, List.getElem?_append_left h]
theorem gd_snoc_at (ns : List Int) (n : Int) : gd (ns ++ [n]) ns.length = n := by simp [gd]
theorem extract_list (s : ByteArray) (a b : Nat) : (s.extract a b).data.toList = (s.data.toList.drop a).take (b - a) := by
  simp [ByteArray.data_extract, List.extract]
theorem drop_cons (s : ByteArray) (i : Nat) (h : i < s.size) : s.data.toList.drop i = s[i] :: s.data.toList.drop (i + 1) := by
  rw [List.drop_eq_getElem_cons (by simpa using h)]
  rfl
theorem cur_next (s : ByteArray) {fr i : Nat} (h : fr ≤ i) (hi : i < s.size) : (s.data.toList.drop fr).take (i + 1 - fr) = (s.data.toList.drop fr).take (i - fr) ++ [s[i]] := by
  obtain ⟨j, rfl⟩ : ∃ j, i = fr + j := ⟨i - fr, by omega⟩
  rw [show fr + j + 1 - fr = j + 1 by omega, show fr + j - fr = j by omega]
  exact take_next s fr j hi
/-- Where the reading stands at byte i: the word from fr on, the numbers ahead of it. -/
def Stand (s : ByteArray) (T : Option (List Int)) (i fr : Nat) (ns : List Int) : Prop :=
  (i ≤ s.size ∧ fr ≤ i ∧ snums (s.data.toList.drop i) ns ((s.data.toList.drop fr).take (i - fr)) = T) ∨ (i = s.size + 1 ∧ T = some ns)
theorem Stand.on {s : ByteArray} {T : Option (List Int)} {i fr : Nat} {ns : List Int} (h : Stand s T i fr ns) (hi : i < s.size) (hc : s[i] ≠ 32) : Stand s T (i + 1) fr ns := by
  rcases h with ⟨h1, h2, h3⟩ | ⟨h1, _⟩
  · refine .inl ⟨by omega, by omega, ?_⟩
    rw [cur_next s h2 hi, ← h3, drop_cons s i hi]
    simp [snums, hc]
  · omega
theorem Stand.word {s : ByteArray} {T : Option (List Int)} {i fr : Nat} {ns : List Int} (h : Stand s T i fr ns) (hi : i ≤ s.size) (hc : (hi : i < s.size) → s[i] = 32) :
    (∀ n, num1 ((s.data.toList.drop fr).take (i - fr)) = some n → Stand s T (i + 1) (i + 1) (ns ++ [n])) ∧ (num1 ((s.data.toList.drop fr).take (i - fr)) = none → T = none) := by
  rcases h with ⟨h1, h2, h3⟩ | ⟨h1, _⟩
  · by_cases hlt : i < s.size
    · rw [drop_cons s i hlt, hc hlt] at h3
      constructor
      · intro n hn
        refine .inl ⟨by omega, Nat.le_refl _, ?_⟩
        rw [← h3]
        simp [snums, hn]
      · intro hn
        rw [← h3]
        simp [snums, hn]
    · have he : i = s.size := by omega
      have hd : s.data.toList.drop i = [] := List.drop_eq_nil_of_le (by simp; omega)
      rw [hd] at h3
      constructor
      · intro n hn
        refine .inr ⟨by omega, ?_⟩
        rw [← h3]
        simp [snums, hn]
      · intro hn
        rw [← h3]
        simp [snums, hn]
  · omega

/-- A list of numbers that is answered, and whether it is one. -/
def NAns (w w' : World) (e : Ending) (T : Option (List Int)) : Prop :=
  ∃ (ns : List Int) (ok : Bool) (g cap : Nat), e = .returned (.tuple #[.slice (some ⟨g, 0, none⟩) ns.length cap, .bool ok]) ∧ ((ok = true ∧ T = some ns) ∨ (ok = false ∧ T = none)) ∧ ns.length ≤ 1048577 ∧ IOwn w' w.heap.size g cap ns.length (gd ns) ∧ Below w.heap.size w w'

set_option maxHeartbeats 2000000 in
set_option maxRecDepth 20000 in
theorem l1Numbers_any (s : ByteArray) (hs : s.size ≤ 1048576) (w : World) :
    Calls Tryd.prog 55 #[.string s] w fun e w' => NAns w w' e (snums s.data.toList [] []) := by
  have HS0 : Hid (Stand s (snums s.data.toList [] []) 0 0 []) := .inl ⟨by omega, Nat.le_refl _, by simp⟩
  generalize snums s.data.toList [] [] = T at HS0 ⊢
  have hO0 : IOwn (w.alloc (.cells #[] 2)) w.heap.size w.heap.size 0 0 (gd []) := IOwn.empty w (Nat.le_refl _) _
  go_enter Tryd.func55, Tryd.ntmps55
  go_wp2
  go_loopw [4, 5, 6] (fun o f x wr => ∃ (i fr g c : Nat) (ns : List Int), i ≤ s.size + 1 ∧ fr ≤ i ∧ ns.length ≤ i ∧ x = .int .i64 i ∧ f = .int .i64 fr ∧ o = .slice (some ⟨g, 0, none⟩) ns.length c ∧ Hid (Stand s T i fr ns) ∧ IOwn wr w.heap.size g c ns.length (gd ns) ∧ Below w.heap.size w wr) (fun _ _ x _ => s.size + 1 - (intOf x).toNat)
  case atStart => exact ⟨0, 0, w.heap.size, 0, [], by omega, Nat.le_refl _, Nat.le_refl _, rfl, rfl, rfl, HS0, hO0, (Below.refl _ _).alloc (Nat.le_refl _) _⟩
  case round =>
    clear hO0 HS0
    obtain ⟨i, fr, g, c, ns, hi, hfr, hln, rfl, rfl, rfl, HS, hown, hbel⟩ := hrel
    have hgl := hown.lt
    have hgb := hown.base
    by_cases hle : i ≤ s.size
    rotate_left
    · have hle' : ¬ (i : Int) ≤ (s.size : Int) := by omega
      have HT : Hid (T = some ns) := by
        rcases HS.out with h | h
        · omega
        · exact h.2
      go_wp2
      go_ret2
      exact ⟨ns, true, g, c, rfl, .inl ⟨rfl, HT.out⟩, by omega, hown, hbel⟩
    have hle' : (i : Int) ≤ (s.size : Int) := by omega
    by_cases hc : ∃ h : i < s.size, s[i] ≠ 32
    · obtain ⟨hlt, hc⟩ := hc
      have hlt' : (i : Int) < (s.size : Int) := by omega
      have hi0 : (0 : Int) ≤ (i : Int) := by omega
      have hz : ¬ (s[i].toNat : Int) = 32 := fun e => hc (UInt8.toNat_inj.1 (by simp; omega))
      have hzb : ((s[i].toNat : Int) != 32) = true := by simpa using hz
      have HS1 : Hid (Stand s T (i + 1) fr ns) := HS.out.on hlt hc
      clear hc hz
      go_wp2
      go_roundw
      case rel => exact ⟨i + 1, fr, g, c, ns, by omega, by omega, by omega, by go_num, rfl, rfl, HS1, hown, hbel⟩
      case measure => simp [intOf]; omega
    have hc' : (h : i < s.size) → s[i] = 32 := fun h => Classical.byContradiction fun e => hc ⟨h, e⟩
    obtain ⟨w1, w2⟩ := HS.out.word hle hc'
    have HW1 : Hid (∀ n, num1 ((s.data.toList.drop fr).take (i - fr)) = some n → Stand s T (i + 1) (i + 1) (ns ++ [n])) := w1
    have HW2 : Hid (num1 ((s.data.toList.drop fr).take (i - fr)) = none → T = none) := w2
    have HX : Hid (∀ W, Calls Tryd.prog 79 #[.string (s.extract fr i)] W fun e w' => e = .returned (ret2 (num1 ((s.data.toList.drop fr).take (i - fr)))) ∧ w' = W) := fun W => by
      have := l1Number_any (s.extract fr i) (by simp; omega) W
      rwa [extract_list] at this
    clear w1 w2
    have hi0 : (0 : Int) ≤ (i : Int) := by omega
    have hf0 : (0 : Int) ≤ (fr : Int) := by omega
    have hfi : (fr : Int) ≤ (i : Int) := by omega
    have hcond : (i < s.size ∧ (∃ h : i < s.size, ((s[i].toNat : Int) != 32) = false)) ∨ ¬ i < s.size := by
      by_cases hlt : i < s.size
      · exact .inl ⟨hlt, hlt, by rw [hc' hlt]; rfl⟩
      · exact .inr hlt
    have hstep : ∀ n : Int, num1 ((s.data.toList.drop fr).take (i - fr)) = some n → Hid (Stand s T (i + 1) (i + 1) (ns ++ [n])) := fun n h => HW1.out n h
    have HST : Hid (∀ n : Int, num1 ((s.data.toList.drop fr).take (i - fr)) = some n → Hid (Stand s T (i + 1) (i + 1) (ns ++ [n]))) := hstep
    clear hstep hc hc' HW1 HS
    cases hn : num1 ((s.data.toList.drop fr).take (i - fr)) with
    | none =>
      rw [hn] at HX
      have HX0 : Hid (∀ W, Calls Tryd.prog 79 #[.string (s.extract fr i)] W fun e w' => e = .returned (.tuple #[.int .i64 0, .bool false]) ∧ w' = W) := HX
      clear HX
      have HX := HX0
      clear HX0
      have HT : Hid (T = none) := HW2.out hn
      clear HW2 HST hn
      rcases hcond with ⟨hlt, hlt2, hzb⟩ | hlt
      · have hlt' : (i : Int) < (s.size : Int) := by omega
        go_wp2_with (go_at_call 79; refine (HX.out _).mono ?_; rintro e w1 ⟨rfl, hq⟩; have hq' := hq.symm; subst hq'; clear hq)
        go_ret2
        exact ⟨ns, false, g, c, rfl, .inr ⟨rfl, HT.out⟩, by omega, hown, hbel⟩
      · have hlt' : ¬ (i : Int) < (s.size : Int) := by omega
        go_wp2_with (go_at_call 79; refine (HX.out _).mono ?_; rintro e w1 ⟨rfl, hq⟩; have hq' := hq.symm; subst hq'; clear hq)
        go_ret2
        exact ⟨ns, false, g, c, rfl, .inr ⟨rfl, HT.out⟩, by omega, hown, hbel⟩
    | some n =>
      rw [hn] at HX
      have HX0 : Hid (∀ W, Calls Tryd.prog 79 #[.string (s.extract fr i)] W fun e w' => e = .returned (.tuple #[.int .i64 n, .bool true]) ∧ w' = W) := HX
      clear HX
      have HX := HX0
      clear HX0
      have HSn := HST.out n hn
      clear HW2 HST hn
      rcases hcond with ⟨hlt, hlt2, hzb⟩ | hlt
      · have hlt' : (i : Int) < (s.size : Int) := by omega
        go_wp2_with (first | (go_at_call 79; refine (HX.out _).mono ?_; rintro e w1 ⟨rfl, hq⟩; have hq' := hq.symm; subst hq'; clear hq) | (at_builtin; refine wpList_append_int rfl _ _ rfl w.heap.size g c ns.length (gd ns) rfl (by exact hown.below ((Below.refl _ _).alloc (Nat.le_refl _) _) (by omega)) ⟨wr.heap.size, 0, none⟩ 1 n rfl (by simp [go_sem]) (by omega) (by simp; omega) ?_; intro g' c' w3 hown3 hgrow3 hat3))
        have hown4 := hown3 (gd (ns ++ [n])) (fun j hj => gd_snoc_lt hj) (gd_snoc_at ns n)
        have hB3 := (hbel.alloc (o := .cells #[.int .i64 n] 2) (by omega)).grown hgrow3 (by simp; omega) (fun j hj => by cases hj; omega)
        have hl1 : (ns ++ [n]).length = ns.length + 1 := by simp
        go_roundw
        case rel => exact ⟨i + 1, i + 1, g', c', ns ++ [n], by omega, Nat.le_refl _, by rw [hl1]; omega, by go_num, by go_num, by rw [hl1], HSn, by rw [hl1]; exact hown4, hB3⟩
        case measure => simp [intOf]; omega
      · have hlt' : ¬ (i : Int) < (s.size : Int) := by omega
        go_wp2_with (first | (go_at_call 79; refine (HX.out _).mono ?_; rintro e w1 ⟨rfl, hq⟩; have hq' := hq.symm; subst hq'; clear hq) | (at_builtin; refine wpList_append_int rfl _ _ rfl w.heap.size g c ns.length (gd ns) rfl (by exact hown.below ((Below.refl _ _).alloc (Nat.le_refl _) _) (by omega)) ⟨wr.heap.size, 0, none⟩ 1 n rfl (by simp [go_sem]) (by omega) (by simp; omega) ?_; intro g' c' w3 hown3 hgrow3 hat3))
        have hown4 := hown3 (gd (ns ++ [n])) (fun j hj => gd_snoc_lt hj) (gd_snoc_at ns n)
        have hB3 := (hbel.alloc (o := .cells #[.int .i64 n] 2) (by omega)).grown hgrow3 (by simp; omega) (fun j hj => by cases hj; omega)
        have hl1 : (ns ++ [n]).length = ns.length + 1 := by simp
        go_roundw
        case rel => exact ⟨i + 1, i + 1, g', c', ns ++ [n], by omega, Nat.le_refl _, by rw [hl1]; omega, by go_num, by go_num, by rw [hl1], HSn, by rw [hl1]; exact hown4, hB3⟩
        case measure => simp [intOf]; omega

end Go.Proofs.YticckgmkhgnmfaaDoor

/-
  The program's name and numbers of a text: read by states that are labels. For every text of at most 2^20 bytes.
-/
set_option linter.unusedVariables false
set_option linter.unusedSimpArgs false
namespace Go.Proofs.YticckgmkhgnmfaaDoor
open Go.RowKit
attribute [local go_sem ↓] Go.wp_at_zero Go.wp_at_succ

theorem OwnE.congr {w : World} {base n cap : Nat} {go : Option Addr} {f g : Nat → Int} (h : OwnE w base go n cap f) (e : ∀ j, j < n → f j = g j) : OwnE w base go n cap g := by
  unfold OwnE at h ⊢
  rw [← icells_congr e]
  exact h
theorem ahead_full {l : List UInt8} {out : List Int} (h : out.length = 30) : inums l (.ahead out) = none := by
  cases l with
  | nil => rfl
  | cons c t => simp [inums, h]
def szOf : Value → Nat
  | .string t => t.size
  | _ => 0
/-- How far each label is from the end. -/
def mu5 (l : Nat) (a : Act) (_ : World) : Nat := if l = 2 then 0 else if l = 3 then 2 * szOf (a.tmps.getD 9 undef) + 3 else if l = 4 then 2 * szOf (a.tmps.getD 9 undef) + 3 else 2 * szOf (a.tmps.getD 9 undef) + 2
/-- A name and numbers that are answered, and whether they are any. -/
def WAns (w w' : World) (e : Ending) (T : Option (List UInt8 × List Int)) : Prop :=
  ∃ (nm : ByteArray) (ns : List Int) (ok : Bool) (go : Option Addr) (gc : Nat), e = .returned (.tuple #[.string nm, .slice go ns.length gc, .bool ok]) ∧ ((ok = true ∧ T = some (nm.data.toList, ns)) ∨ (ok = false ∧ T = none)) ∧ ns.length ≤ 30 ∧ OwnE w' w.heap.size go ns.length gc (gd ns) ∧ Below w.heap.size w w'

def WJ0 (s : ByteArray) (w : World) (a : Act) (w' : World) : Prop := ∃ (ρ : ByteArray) (u5 : Value) (us : Nat → Value), a = { tmps := #[.string s, undef, .string ⟨#[]⟩, .slice none 0 0, .bool false, u5, .string ⟨#[]⟩, .int .i64 0, .slice none 0 0, .string ρ, us 10, us 11, us 12, us 13, us 14, us 15, us 16, us 17, us 18, us 19, us 20, us 21, us 22, us 23, us 24, us 25, us 26, us 27, us 28, us 29, us 30, us 31, us 32, us 33, us 34, us 35, us 36, us 37, us 38, us 39, us 40, us 41, us 42, us 43, us 44, us 45, us 46, us 47, us 48, us 49, us 50, us 51, us 52, us 53, us 54, us 55, us 56, us 57, us 58, us 59, us 60, us 61, us 62, us 63, us 64, us 65, us 66, us 67, us 68, us 69, us 70, us 71, us 72, us 73, us 74, us 75, us 76, us 77, us 78, us 79, us 80, us 81], defers := [] } ∧ Hid (NameAt s.data.toList ρ.data.toList) ∧ ρ.size ≤ 1048576 ∧ Below w.heap.size w w'
def WJ1 (s : ByteArray) (w : World) (a : Act) (w' : World) : Prop := ∃ (ρ nm : ByteArray) (out : List Int) (go : Option Addr) (gc k : Nat) (u5 u7 : Value) (us : Nat → Value), a = { tmps := #[.string s, undef, .string ⟨#[]⟩, .slice none 0 0, .bool false, u5, .string nm, u7, .slice go k gc, .string ρ, us 10, us 11, us 12, us 13, us 14, us 15, us 16, us 17, us 18, us 19, us 20, us 21, us 22, us 23, us 24, us 25, us 26, us 27, us 28, us 29, us 30, us 31, us 32, us 33, us 34, us 35, us 36, us 37, us 38, us 39, us 40, us 41, us 42, us 43, us 44, us 45, us 46, us 47, us 48, us 49, us 50, us 51, us 52, us 53, us 54, us 55, us 56, us 57, us 58, us 59, us 60, us 61, us 62, us 63, us 64, us 65, us 66, us 67, us 68, us 69, us 70, us 71, us 72, us 73, us 74, us 75, us 76, us 77, us 78, us 79, us 80, us 81], defers := [] } ∧ Hid (wds s.data.toList = (inums ρ.data.toList (.ahead out)).map (fun ns => (nm.data.toList, ns))) ∧ Hid (k = out.length) ∧ k ≤ 30 ∧ ρ.size ≤ 1048576 ∧ OwnE w' w.heap.size go k gc (gd out) ∧ Below w.heap.size w w'
def WJ2 (s : ByteArray) (w : World) (a : Act) (w' : World) : Prop := ∃ (u5 u6 u7 u8 u9 : Value) (us : Nat → Value), a = { tmps := #[.string s, undef, .string ⟨#[]⟩, .slice none 0 0, .bool false, u5, u6, u7, u8, u9, us 10, us 11, us 12, us 13, us 14, us 15, us 16, us 17, us 18, us 19, us 20, us 21, us 22, us 23, us 24, us 25, us 26, us 27, us 28, us 29, us 30, us 31, us 32, us 33, us 34, us 35, us 36, us 37, us 38, us 39, us 40, us 41, us 42, us 43, us 44, us 45, us 46, us 47, us 48, us 49, us 50, us 51, us 52, us 53, us 54, us 55, us 56, us 57, us 58, us 59, us 60, us 61, us 62, us 63, us 64, us 65, us 66, us 67, us 68, us 69, us 70, us 71, us 72, us 73, us 74, us 75, us 76, us 77, us 78, us 79, us 80, us 81], defers := [] } ∧ Hid (wds s.data.toList = none) ∧ Below w.heap.size w w'
def WJ3 (s : ByteArray) (w : World) (a : Act) (w' : World) : Prop := ∃ (ρ nm : ByteArray) (out : List Int) (go : Option Addr) (gc k : Nat) (r n : Int) (us : Nat → Value), a = { tmps := #[.string s, undef, .string ⟨#[]⟩, .slice none 0 0, .bool false, .int .i32 r, .string nm, .int .i64 n, .slice go k gc, .string ρ, us 10, us 11, us 12, us 13, us 14, us 15, us 16, us 17, us 18, us 19, us 20, us 21, us 22, us 23, us 24, us 25, us 26, us 27, us 28, us 29, us 30, us 31, us 32, us 33, us 34, us 35, us 36, us 37, us 38, us 39, us 40, us 41, us 42, us 43, us 44, us 45, us 46, us 47, us 48, us 49, us 50, us 51, us 52, us 53, us 54, us 55, us 56, us 57, us 58, us 59, us 60, us 61, us 62, us 63, us 64, us 65, us 66, us 67, us 68, us 69, us 70, us 71, us 72, us 73, us 74, us 75, us 76, us 77, us 78, us 79, us 80, us 81], defers := [] } ∧ Hid (wds s.data.toList = (bhd r ρ.data.toList (out ++ [n])).map (fun ns => (nm.data.toList, ns))) ∧ Hid (k = out.length) ∧ k < 30 ∧ ρ.size ≤ 1048576 ∧ OwnE w' w.heap.size go k gc (gd out) ∧ Below w.heap.size w w'
def WJ4 (s : ByteArray) (w : World) (a : Act) (w' : World) : Prop := ∃ (ρ nm : ByteArray) (out : List Int) (go : Option Addr) (gc k : Nat) (r n : Int) (us : Nat → Value), a = { tmps := #[.string s, undef, .string ⟨#[]⟩, .slice none 0 0, .bool false, .int .i32 r, .string nm, .int .i64 n, .slice go k gc, .string ρ, us 10, us 11, us 12, us 13, us 14, us 15, us 16, us 17, us 18, us 19, us 20, us 21, us 22, us 23, us 24, us 25, us 26, us 27, us 28, us 29, us 30, us 31, us 32, us 33, us 34, us 35, us 36, us 37, us 38, us 39, us 40, us 41, us 42, us 43, us 44, us 45, us 46, us 47, us 48, us 49, us 50, us 51, us 52, us 53, us 54, us 55, us 56, us 57, us 58, us 59, us 60, us 61, us 62, us 63, us 64, us 65, us 66, us 67, us 68, us 69, us 70, us 71, us 72, us 73, us 74, us 75, us 76, us 77, us 78, us 79, us 80, us 81], defers := [] } ∧ Hid (wds s.data.toList = (if 999999999 < 10 * n + (r - 48) then none else inums ρ.data.toList (.within (10 * n + (r - 48)) out)).map (fun ns => (nm.data.toList, ns))) ∧ Hid (k = out.length) ∧ k < 30 ∧ ρ.size ≤ 1048576 ∧ (48 ≤ r ∧ r ≤ 57) ∧ (0 ≤ n ∧ n ≤ 999999999) ∧ OwnE w' w.heap.size go k gc (gd out) ∧ Below w.heap.size w w'

set_option maxHeartbeats 8000000 in
set_option maxRecDepth 20000 in
theorem readWords_any (s : ByteArray) (hs : s.size ≤ 1048576) (w : World) :
    Calls Tryd.prog 63 #[.string s] w fun e w' => WAns w w' e (wds s.data.toList) := by
  obtain ⟨T, hT⟩ : ∃ T, T = wds s.data.toList := ⟨_, rfl⟩
  rw [← hT]
  have HT : Hid (T = wds s.data.toList) := hT
  clear hT
  go_enter Tryd.func63, Tryd.ntmps63
  go_wp2
  refine wp_scope5 rfl rfl rfl rfl rfl
    (WJ0 s w)
    (WJ1 s w)
    (WJ2 s w)
    (WJ3 s w)
    (WJ4 s w) mu5 ?_ ?_ ?_ ?_ ?_ ?_
  · -- refused
    rintro a w' ⟨u5, u6, u7, u8, u9, us, rfl, HN, hB⟩
    go_wp2
    simp only [jumps_ret]
    refine bodyPost_ret (v := .tuple #[.string ⟨#[]⟩, .slice none 0 0, .bool false]) (by simp [results, Tryd.results63, go_sem]) rfl ?_
    exact ⟨⟨#[]⟩, [], false, none, 0, rfl, .inr ⟨rfl, by rw [HT.out, HN.out]⟩, by simp, OwnE.nil _ _ _, hB⟩
  · -- behind a number
    rintro H2 a w' ⟨ρ, nm, out, go, gc, k, r, n, us, rfl, HW, HK, hk, hρ, hO, hB⟩
    have hO2 : OwnE (w'.alloc (.cells #[.int .i64 n] 2)) w.heap.size go k gc (gd (out ++ [n])) := (hO.next ((Below.refl w'.heap.size w').alloc (Nat.le_refl _) (.cells #[.int .i64 n] 2))).congr (fun j hj => (gd_snoc_lt (by have := HK.out; omega)).symm)
    have hBs := hB.size
    have HG : Hid (gd (out ++ [n]) k = n) := by
      show _ = _
      rw [HK.out]
      exact gd_snoc_at out n
    have HL : Hid ((out ++ [n]).length = k + 1) := by
      show _ = _
      rw [HK.out]
      simp
    by_cases h32 : r = 32
    · subst h32
      go_wp2_with (at_builtin; refine wpList_plain rfl fun _ hK => wp_append_own (.tmp 71) (.tmp 73) rfl w.heap.size k gc go (gd (out ++ [n])) rfl hO2 w'.heap.size rfl (by rw [HG.out]; simp [go_sem]) (by omega) (by simp; omega) fun g' gc' w3 hown3 hgrow3 hat3 => hK _ _ ?_)
      have hB3 := (hB.alloc (o := .cells #[.int .i64 n] 2) hBs).grown hgrow3 (by simp; omega) (fun j hj => (hO.at hj).1)
      go_step3
      refine ⟨⟨ρ, nm, out ++ [n], some ⟨g', 0, none⟩, gc', k + 1, _, _, (fun i => ([_, _, _, _, _, _, _, _, _, _, _, _, _, _, _, _, _, _, _, _, _, _, _, _, _, _, _, _, _, _, _, _, _, _, _, _, _, _, _, _, _, _, _, _, _, _, _, _, _, _, _, _, _, _, _, _, _, _, _, _, _, _, _, _, _, _, _, _, _, _, _, _] : List Value).getD (i - 10) undef), rfl, ?_, HL.out.symm, by omega, hρ, hown3, hB3⟩, by simp [mu5, szOf]⟩
      show _ = _
      rw [HW.out]
      rfl
    by_cases h1 : r = -1
    · subst h1
      go_wp2_with (at_builtin; refine wpList_plain rfl fun _ hK => wp_append_own (.tmp 71) (.tmp 73) rfl w.heap.size k gc go (gd (out ++ [n])) rfl hO2 w'.heap.size rfl (by rw [HG.out]; simp [go_sem]) (by omega) (by simp; omega) fun g' gc' w3 hown3 hgrow3 hat3 => hK _ _ ?_)
      have hB3 := (hB.alloc (o := .cells #[.int .i64 n] 2) hBs).grown hgrow3 (by simp; omega) (fun j hj => (hO.at hj).1)
      simp only [jumps_ret]
      refine bodyPost_ret (v := .tuple #[.string nm, .slice (some ⟨g', 0, none⟩) (k + 1) gc', .bool true]) (by simp [results, Tryd.results63, go_sem]) rfl ?_
      exact ⟨nm, out ++ [n], true, some ⟨g', 0, none⟩, gc', by rw [HL.out], .inl ⟨rfl, by rw [HT.out, HW.out]; rfl⟩, by rw [HL.out]; omega, by rw [HL.out]; exact hown3, hB3⟩
    have h32b : (r == 32) = false := by simpa using h32
    have h1b : (r == -1) = false := by simpa using h1
    have HNO : Hid (wds s.data.toList = none) := by
      show _ = _
      rw [HW.out]
      simp [bhd, h32, h1]
    clear h32 h1
    go_wp2_with (at_builtin; refine wpList_plain rfl fun _ hK => wp_append_own (.tmp 71) (.tmp 73) rfl w.heap.size k gc go (gd (out ++ [n])) rfl hO2 w'.heap.size rfl (by rw [HG.out]; simp [go_sem]) (by omega) (by simp; omega) fun g' gc' w3 hown3 hgrow3 hat3 => hK _ _ ?_)
    have hB3 := (hB.alloc (o := .cells #[.int .i64 n] 2) hBs).grown hgrow3 (by simp; omega) (fun j hj => (hO.at hj).1)
    refine wp_label ?_
    rename_i hKK
    refine hKK _ _ (pass_on (Nat.zero_le _) (H2 _ _ ⟨_, _, _, _, _, (fun i => ([_, _, _, _, _, _, _, _, _, _, _, _, _, _, _, _, _, _, _, _, _, _, _, _, _, _, _, _, _, _, _, _, _, _, _, _, _, _, _, _, _, _, _, _, _, _, _, _, _, _, _, _, _, _, _, _, _, _, _, _, _, _, _, _, _, _, _, _, _, _, _, _] : List Value).getD (i - 10) undef), rfl, HNO, hB3⟩))
  · -- within a number
    rintro H3 a w' ⟨ρ, nm, out, go, gc, k, r, n, us, rfl, HW, HK, hk, hρ, ⟨hr1, hr2⟩, ⟨hn1, hn2⟩, hO, hB⟩
    by_cases hbig : 999999999 < 10 * n + (r - 48)
    · go_wp2
      go_step3
      refine ⟨⟨_, _, _, _, _, (fun i => ([_, _, _, _, _, _, _, _, _, _, _, _, _, _, _, _, _, _, _, _, _, _, _, _, _, _, _, _, _, _, _, _, _, _, _, _, _, _, _, _, _, _, _, _, _, _, _, _, _, _, _, _, _, _, _, _, _, _, _, _, _, _, _, _, _, _, _, _, _, _, _, _] : List Value).getD (i - 10) undef), rfl, ?_, hB⟩, by simp [mu5, szOf]⟩
      show _ = _
      rw [HW.out, if_pos hbig]
      rfl
    go_wp2_with fail
    refine (cutRune_any ρ hρ _).mono ?_
    rintro e w1 ⟨r1, ρ1, rfl, hc, hb1⟩
    have hcb := hc.bd
    have hcl := hc.len
    have hO1 := hO.next hb1
    have hB1 := below_next hB (Nat.le_refl _) hb1
    have hρ1 : ρ1.size ≤ ρ.size := by simpa using hcl.1
    cases hd : digB r1
    · have hnd : ¬ (48 ≤ r1 ∧ r1 ≤ 57) := fun e => by simp [digB, e] at hd
      go_wp2_with (go_at_call 82; refine (isDigit_any _ _).mono ?_; rintro e w2 ⟨rfl, hq⟩; have hq' := hq.symm; subst hq'; clear hq; rw [hd])
      refine wp_label ?_
      rename_i hKK
      refine hKK _ _ (pass_on ?_ (H3 _ _ ⟨ρ1, nm, out, go, gc, k, r1, _, (fun i => ([_, _, _, _, _, _, _, _, _, _, _, _, _, _, _, _, _, _, _, _, _, _, _, _, _, _, _, _, _, _, _, _, _, _, _, _, _, _, _, _, _, _, _, _, _, _, _, _, _, _, _, _, _, _, _, _, _, _, _, _, _, _, _, _, _, _, _, _, _, _, _, _] : List Value).getD (i - 10) undef), rfl, ?_, HK, hk, by omega, hO1, hB1⟩))
      · simp [mu5, szOf]; omega
      · show _ = _
        rw [HW.out, if_neg (by omega), (within_cut hc).2 hnd]
    · have hnd : 48 ≤ r1 ∧ r1 ≤ 57 := by simpa [digB] using hd
      have hlt : ρ1.size < ρ.size := by simpa using hcl.2 (by omega)
      go_wp2_with (go_at_call 82; refine (isDigit_any _ _).mono ?_; rintro e w2 ⟨rfl, hq⟩; have hq' := hq.symm; subst hq'; clear hq; rw [hd])
      go_step3
      refine ⟨⟨ρ1, nm, out, go, gc, k, r1, _, (fun i => ([_, _, _, _, _, _, _, _, _, _, _, _, _, _, _, _, _, _, _, _, _, _, _, _, _, _, _, _, _, _, _, _, _, _, _, _, _, _, _, _, _, _, _, _, _, _, _, _, _, _, _, _, _, _, _, _, _, _, _, _, _, _, _, _, _, _, _, _, _, _, _, _] : List Value).getD (i - 10) undef), rfl, ?_, HK, hk, by omega, hnd, ⟨?_, ?_⟩, hO1, hB1⟩, by simp [mu5, szOf]; omega⟩
      · show _ = _
        rw [HW.out, if_neg (by omega), (within_cut hc).1 hnd]
      · omega
      · omega
  · -- ahead of a number
    rintro H4 a w' ⟨ρ, nm, out, go, gc, k, u5, u7, us, rfl, HW, HK, hk, hρ, hO, hB⟩
    by_cases h30 : k = 30
    · subst h30
      go_wp2
      go_step3
      refine ⟨⟨_, _, _, _, _, (fun i => ([_, _, _, _, _, _, _, _, _, _, _, _, _, _, _, _, _, _, _, _, _, _, _, _, _, _, _, _, _, _, _, _, _, _, _, _, _, _, _, _, _, _, _, _, _, _, _, _, _, _, _, _, _, _, _, _, _, _, _, _, _, _, _, _, _, _, _, _, _, _, _, _] : List Value).getD (i - 10) undef), rfl, ?_, hB⟩, by simp [mu5, szOf]⟩
      show _ = _
      have h := HK.out
      rw [HW.out, ahead_full h.symm]
      rfl
    have h30' : ((k : Int) == 30) = false := by simp; omega
    have h30i : ¬ (k : Int) = 30 := by omega
    have ho : out.length ≠ 30 := fun e => h30 (by rw [HK.out]; exact e)
    have HO : Hid (out.length ≠ 30) := ho
    clear ho h30
    go_wp2_with fail
    refine (cutRune_any ρ hρ _).mono ?_
    rintro e w1 ⟨r1, ρ1, rfl, hc, hb1⟩
    have hcb := hc.bd
    have hcl := hc.len
    have hO1 := hO.next hb1
    have hB1 := below_next hB (Nat.le_refl _) hb1
    have hρ1 : ρ1.size ≤ ρ.size := by simpa using hcl.1
    by_cases h48 : r1 = 48
    · subst h48
      have hlt : ρ1.size < ρ.size := by simpa using hcl.2 (by omega)
      go_wp2_with fail
      refine (cutRune_any ρ1 (by omega) _).mono ?_
      rintro e w2 ⟨r2, ρ2, rfl, hc2, hb2⟩
      have hcl2 := hc2.len
      have hρ2 : ρ2.size ≤ ρ1.size := by simpa using hcl2.1
      go_wp2
      go_step3
      refine ⟨⟨ρ2, nm, out, go, gc, k, r2, 0, (fun i => ([_, _, _, _, _, _, _, _, _, _, _, _, _, _, _, _, _, _, _, _, _, _, _, _, _, _, _, _, _, _, _, _, _, _, _, _, _, _, _, _, _, _, _, _, _, _, _, _, _, _, _, _, _, _, _, _, _, _, _, _, _, _, _, _, _, _, _, _, _, _, _, _] : List Value).getD (i - 10) undef), rfl, ?_, HK, by omega, by omega, hO1.next hb2, below_next hB1 (Nat.le_refl _) hb2⟩, by simp [mu5, szOf]; omega⟩
      show _ = _
      rw [HW.out, (ahead_cut hc HO.out).1 rfl, behind_cut hc2]
    have h48b : (r1 == 48) = false := by simpa using h48
    cases hd : digB r1
    · have hnd : ¬ (48 ≤ r1 ∧ r1 ≤ 57) := fun e => by simp [digB, e] at hd
      go_wp2_with (go_at_call 82; refine (isDigit_any _ _).mono ?_; rintro e w2 ⟨rfl, hq⟩; have hq' := hq.symm; subst hq'; clear hq; rw [hd])
      go_step3
      refine ⟨⟨_, _, _, _, _, (fun i => ([_, _, _, _, _, _, _, _, _, _, _, _, _, _, _, _, _, _, _, _, _, _, _, _, _, _, _, _, _, _, _, _, _, _, _, _, _, _, _, _, _, _, _, _, _, _, _, _, _, _, _, _, _, _, _, _, _, _, _, _, _, _, _, _, _, _, _, _, _, _, _, _] : List Value).getD (i - 10) undef), rfl, ?_, hB1⟩, by simp [mu5, szOf]⟩
      show _ = _
      rw [HW.out, (ahead_cut hc HO.out).2.2 hnd]
      rfl
    · have hnd : 48 ≤ r1 ∧ r1 ≤ 57 := by simpa [digB] using hd
      have hlt : ρ1.size < ρ.size := by simpa using hcl.2 (by omega)
      go_wp2_with (go_at_call 82; refine (isDigit_any _ _).mono ?_; rintro e w2 ⟨rfl, hq⟩; have hq' := hq.symm; subst hq'; clear hq; rw [hd])
      refine wp_label ?_
      rename_i hKK
      refine hKK _ _ (pass_on ?_ (H4 _ _ ⟨ρ1, nm, out, go, gc, k, r1, 0, (fun i => ([_, _, _, _, _, _, _, _, _, _, _, _, _, _, _, _, _, _, _, _, _, _, _, _, _, _, _, _, _, _, _, _, _, _, _, _, _, _, _, _, _, _, _, _, _, _, _, _, _, _, _, _, _, _, _, _, _, _, _, _, _, _, _, _, _, _, _, _, _, _, _, _] : List Value).getD (i - 10) undef), rfl, ?_, HK, by omega, by omega, hnd, ⟨by omega, by omega⟩, hO1, hB1⟩))
      · simp [mu5, szOf]; omega
      · show _ = _
        rw [HW.out, (ahead_cut hc HO.out).2.1 ⟨by omega, hnd.2⟩, if_neg (by omega)]
        simp
  · -- in the name
    rintro a w' ⟨ρ, u5, us, rfl, HW, hρ, hB⟩
    go_wp2_with fail
    refine (cutRune_any ρ hρ _).mono ?_
    rintro e w1 ⟨r1, ρ1, rfl, hc, hb1⟩
    have hcb := hc.bd
    have hcl := hc.len
    have hB1 := below_next hB (Nat.le_refl _) hb1
    have hρ1 : ρ1.size ≤ ρ.size := by simpa using hcl.1
    by_cases hl : 97 ≤ r1 ∧ r1 ≤ 122
    · obtain ⟨hl1, hl2⟩ := hl
      have hlt : ρ1.size < ρ.size := by simpa using hcl.2 (by omega)
      go_wp2
      go_step3
      exact ⟨⟨ρ1, _, (fun i => ([_, _, _, _, _, _, _, _, _, _, _, _, _, _, _, _, _, _, _, _, _, _, _, _, _, _, _, _, _, _, _, _, _, _, _, _, _, _, _, _, _, _, _, _, _, _, _, _, _, _, _, _, _, _, _, _, _, _, _, _, _, _, _, _, _, _, _, _, _, _, _, _] : List Value).getD (i - 10) undef), rfl, name_letter HW.out hc hl1 hl2, by omega, hB1⟩, by simp [mu5, szOf]; omega⟩
    have hor : r1 < 97 ∨ (97 ≤ r1 ∧ 122 < r1) := by omega
    by_cases h32 : r1 = 32
    · subst h32
      have hlt : ρ1.size < ρ.size := by simpa using hcl.2 (by omega)
      obtain ⟨hb, hbl⟩ := name_blank HW.out hc
      have HBL : Hid (wds s.data.toList = (inums ρ1.data.toList (.ahead [])).map (fun ns => (s.data.toList.take (s.data.toList.length - ρ1.data.toList.length - 1), ns))) := hb
      simp only [Array.length_toList, ByteArray.size_data] at hbl
      clear hb
      have hb1' : (0 : Int) ≤ (s.size : Int) - (ρ1.size : Int) - 1 := by omega
      have hb2' : (s.size : Int) - (ρ1.size : Int) - 1 ≤ (s.size : Int) := by omega
      clear hor hl
      go_wp2
      go_step3
      refine ⟨⟨ρ1, _, [], none, 0, 0, _, _, (fun i => ([_, _, _, _, _, _, _, _, _, _, _, _, _, _, _, _, _, _, _, _, _, _, _, _, _, _, _, _, _, _, _, _, _, _, _, _, _, _, _, _, _, _, _, _, _, _, _, _, _, _, _, _, _, _, _, _, _, _, _, _, _, _, _, _, _, _, _, _, _, _, _, _] : List Value).getD (i - 10) undef), rfl, ?_, rfl, by omega, by omega, OwnE.nil _ _ _, hB1⟩, by simp [mu5, szOf]; omega⟩
      show _ = _
      rw [HBL.out, extract_list, List.drop_zero]
      congr 3
    have h32b : (r1 == 32) = false := by simpa using h32
    by_cases h1 : r1 = -1
    · subst h1
      have hend := name_end HW.out hc
      have HE : Hid (T = some (s.data.toList, [])) := by
        show _ = _
        rw [HT.out, hend]
      clear hend hor hl
      go_wp2
      simp only [jumps_ret]
      refine bodyPost_ret (v := .tuple #[.string s, .slice none 0 0, .bool true]) (by simp [results, Tryd.results63, go_sem]) rfl ?_
      exact ⟨s, [], true, none, 0, rfl, .inl ⟨rfl, HE.out⟩, by simp, OwnE.nil _ _ _, hB1⟩
    have h1b : (r1 == -1) = false := by simpa using h1
    have HNO : Hid (wds s.data.toList = none) := name_other HW.out hc hl h32 h1
    clear hl h32 h1
    rcases hor with hl1 | ⟨hl1, hl2⟩
    · go_wp2
      go_step3
      exact ⟨⟨_, _, _, _, _, (fun i => ([_, _, _, _, _, _, _, _, _, _, _, _, _, _, _, _, _, _, _, _, _, _, _, _, _, _, _, _, _, _, _, _, _, _, _, _, _, _, _, _, _, _, _, _, _, _, _, _, _, _, _, _, _, _, _, _, _, _, _, _, _, _, _, _, _, _, _, _, _, _, _, _] : List Value).getD (i - 10) undef), rfl, HNO, hB1⟩, by simp [mu5, szOf]⟩
    · go_wp2
      go_step3
      exact ⟨⟨_, _, _, _, _, (fun i => ([_, _, _, _, _, _, _, _, _, _, _, _, _, _, _, _, _, _, _, _, _, _, _, _, _, _, _, _, _, _, _, _, _, _, _, _, _, _, _, _, _, _, _, _, _, _, _, _, _, _, _, _, _, _, _, _, _, _, _, _, _, _, _, _, _, _, _, _, _, _, _, _] : List Value).getD (i - 10) undef), rfl, HNO, hB1⟩, by simp [mu5, szOf]⟩
  · intro H0
    go_wp2
    refine wp_label ?_
    rename_i hKK
    refine hKK _ _ (pass_in (H0 _ _ ⟨s, _, (fun i => ([_, _, _, _, _, _, _, _, _, _, _, _, _, _, _, _, _, _, _, _, _, _, _, _, _, _, _, _, _, _, _, _, _, _, _, _, _, _, _, _, _, _, _, _, _, _, _, _, _, _, _, _, _, _, _, _, _, _, _, _, _, _, _, _, _, _, _, _, _, _, _, _] : List Value).getD (i - 10) undef), rfl, ⟨[], rfl, rfl⟩, hs, Below.refl _ _⟩))

end Go.Proofs.YticckgmkhgnmfaaDoor

/-
  The program's arcs out of numbers, three at a time, in new memory.
-/
set_option linter.unusedVariables false
set_option linter.unusedSimpArgs false
namespace Go.Proofs.YticckgmkhgnmfaaDoor
open Go.RowKit Go.Maps
attribute [local go_sem ↓] Go.wp_at_zero Go.wp_at_succ

theorem own_three {w : World} {b n k : Nat} {ns : List Int} (h : Own w b n (upto (tri ns) (k * 3))) (hk : k < n) :
    Own (((w.setCell ⟨b, k * 3, none⟩ (.int .i64 (tri ns (k * 3)))).setCell ⟨b, k * 3 + 1, none⟩ (.int .i64 (tri ns (k * 3 + 1)))).setCell ⟨b, k * 3 + 2, none⟩ (.int .i64 (tri ns (k * 3 + 2)))) b n (upto (tri ns) ((k + 1) * 3)) := by
  unfold tri at h ⊢
  rw [ar0, ar1, ar2]
  exact h.three hk
set_option maxHeartbeats 4000000 in
set_option maxRecDepth 20000 in
theorem arcsOf_any (go : Option Addr) (gc B : Nat) (ns : List Int) (n m : Nat) (hn : n = ns.length) (hm : n / 3 = m) (h30 : n ≤ 1000) (w : World) (hO : OwnE w B go n gc (gd ns)) :
    Calls Tryd.prog 83 #[.slice go n gc] w fun e w' => e = .returned (.slice (some ⟨w.heap.size, 0, none⟩) m m) ∧ Own w' w.heap.size m (tri ns) ∧ Below w.heap.size w w' := by
  have hq : (n : Int) / 3 = (m : Int) := by omega
  have HM : Hid (n / 3 = m) := hm
  have HN : Hid (n = ns.length) := hn
  have hm9 : m ≤ 1048576 := by omega
  clear hm hn
  go_enter Tryd.func83, Tryd.ntmps83
  have hmk := make_arcs m hm9
  go_wp2
  clear hmk hq
  have hO0 : Own (w.alloc (.cells (madeCells #[.int .i64 0, .int .i64 0, .int .i64 0] (m * 3)) 82)) w.heap.size m (upto (tri ns) (0 * 3)) := by simpa using made_own w m (tri ns)
  go_loopw [11] (fun x wr => ∃ k : Nat, k ≤ m ∧ x = .int .i64 k ∧ Own wr w.heap.size m (upto (tri ns) (k * 3)) ∧ Below w.heap.size w wr) (fun x _ => m - (intOf x).toNat)
  case atStart => exact ⟨0, Nat.zero_le _, rfl, hO0, (Below.refl _ _).alloc (Nat.le_refl _) _⟩
  case round =>
    clear hO0
    obtain ⟨k, hk, rfl, hown, hbel⟩ := hrel
    by_cases hlt : k < m
    · have hlt' : (k : Int) < (m : Int) := by omega
      have h3 : 3 * k + 2 < n := by have := HM.out; omega
      obtain ⟨g, rfl, hgB, hI⟩ := (hO.next (Below.refl _ w)).has (by omega)
      have hgl : g < w.heap.size := hI.lt
      have hI2 := hI.below hbel hgl
      have c0 : wr.cell? ⟨g, 3 * k, none⟩ = some (.int .i64 (tri ns (k * 3))) := by rw [tri0]; exact hI2.cell (by omega)
      have c1 : wr.cell? ⟨g, 3 * k + 1, none⟩ = some (.int .i64 (tri ns (k * 3 + 1))) := by rw [tri1]; exact hI2.cell (by omega)
      have c2 : wr.cell? ⟨g, 3 * k + 2, none⟩ = some (.int .i64 (tri ns (k * 3 + 2))) := by rw [tri2]; exact hI2.cell (by omega)
      have hq0 : IntKind.i64.wrap (3 * (k : Int)) = 3 * (k : Int) := by rw [IntKind.wrap_i64]; omega
      have hq1 : IntKind.i64.wrap (3 * (k : Int) + 1) = 3 * (k : Int) + 1 := by rw [IntKind.wrap_i64]; omega
      have hq2 : IntKind.i64.wrap (3 * (k : Int) + 2) = 3 * (k : Int) + 2 := by rw [IntKind.wrap_i64]; omega
      have hp0 : (0 : Int) ≤ 3 * (k : Int) := by omega
      have hp1 : (0 : Int) ≤ 3 * (k : Int) + 1 := by omega
      have hp2 : (0 : Int) ≤ 3 * (k : Int) + 2 := by omega
      have hl0 : 3 * (k : Int) < (n : Int) := by omega
      have hl1 : 3 * (k : Int) + 1 < (n : Int) := by omega
      have hl2 : 3 * (k : Int) + 2 < (n : Int) := by omega
      have hn0 : (3 * (k : Int)).toNat = 3 * k := by omega
      have hn1 : (3 * (k : Int) + 1).toNat = 3 * k + 1 := by omega
      have hn2 : (3 * (k : Int) + 2).toNat = 3 * k + 2 := by omega
      have hk0 : (0 : Int) ≤ (k : Int) := by omega
      have d0 := World.rowIs.cell hown (i := k * 3) (by omega)
      have d1 := World.rowIs.cell hown (i := k * 3 + 1) (by omega)
      have d2 := World.rowIs.cell hown (i := k * 3 + 2) (by omega)
      have z0 : ∀ j, wr.frozen? ⟨w.heap.size, j, none⟩ = false := fun j => (Has.of_own hown).frozen j
      have hne : w.heap.size ≠ g := by omega
      go_wp2_with fail
      go_region_held3 (fun X => X.cell? ⟨g, 3 * k, none⟩ = some (.int .i64 (tri ns (k * 3))) ∧ X.cell? ⟨g, 3 * k + 1, none⟩ = some (.int .i64 (tri ns (k * 3 + 1))) ∧ X.cell? ⟨g, 3 * k + 2, none⟩ = some (.int .i64 (tri ns (k * 3 + 2)))) (go_keep) (fail)
      have hown9 := (own_three hown hlt).below (Below.refl _ _).drew
      have hB9 := (((hbel.setCell (p := ⟨w.heap.size, k * 3, none⟩) (Nat.le_refl _) (.int .i64 (tri ns (k * 3)))).setCell (p := ⟨w.heap.size, k * 3 + 1, none⟩) (Nat.le_refl _) (.int .i64 (tri ns (k * 3 + 1)))).setCell (p := ⟨w.heap.size, k * 3 + 2, none⟩) (Nat.le_refl _) (.int .i64 (tri ns (k * 3 + 2)))).drew
      go_wp2
      go_roundw
      case rel => exact ⟨k + 1, by omega, by go_num, hown9, hB9⟩
      case measure => simp [intOf]; omega
    · have hkm : k = m := by omega
      subst hkm
      go_wp2
      go_ret
      exact ⟨rfl, World.rowIs.congr hown (fun j hj => by unfold upto; rw [if_pos hj]), hbel⟩

end Go.Proofs.YticckgmkhgnmfaaDoor

/-
  CommandOk by a plain function: that the document and the program answer just that.
-/
set_option linter.unusedVariables false
set_option linter.unusedSimpArgs false
namespace Go.Proofs.YticckgmkhgnmfaaDoor
open Go.ChangeShapes Go.WideShapes Go.ChangeAt Go.RowKit Go.Deep Go.Joins
attribute [local go_sem ↓] Go.wp_at_zero Go.wp_at_succ

set_option maxHeartbeats 1000000 in
theorem batchOk_any (ao : Option Addr) (n cap : Nat) (F T G : Nat → Int) (hn : n ≤ 1048576) (w : World) (hr : Row w ao n F T G) :
    Calls Tryd.prog 97 #[.slice ao n cap] w fun e w' => e = .returned (.bool (batchB F T G n)) ∧ Below w.heap.size w w' := by
  by_cases h1 : n < 1
  · have h1' : (n : Int) < 1 := by omega
    have hv : batchB F T G n = false := by simp [batchB]; omega
    rw [hv]
    go_enter Tryd.func97, Tryd.ntmps97
    go_wp2
    go_ret
    exact ⟨rfl, Below.refl _ _⟩
  have h1' : ¬ (n : Int) < 1 := by omega
  by_cases h2 : 10 < n
  · have h2' : 10 < (n : Int) := by omega
    have hv : batchB F T G n = false := by simp [batchB]; omega
    rw [hv]
    go_enter Tryd.func97, Tryd.ntmps97
    go_wp2
    go_ret
    exact ⟨rfl, Below.refl _ _⟩
  have h2' : ¬ 10 < (n : Int) := by omega
  have hv : batchB F T G n = batB F T G n := by
    have e1 : decide (1 ≤ n) = true := by simp; omega
    have e2 : decide (n ≤ 10) = true := by simp; omega
    rw [batchB, e1, e2]; rfl
  rw [hv]
  clear hv
  go_enter Tryd.func97, Tryd.ntmps97
  go_wp2
  go_loopw [15] (fun x wr => ∃ i : Nat, i ≤ n ∧ x = .int .i64 i ∧ batB F T G i = true ∧ Below w.heap.size w wr) (fun x _ => n - (intOf x).toNat)
  case atStart => exact ⟨0, Nat.zero_le _, rfl, rfl, Below.refl _ _⟩
  case round =>
    obtain ⟨i, hi, rfl, hall, hbel⟩ := hrel
    by_cases hlt : i < n
    rotate_left
    · obtain rfl : i = n := by omega
      go_wp2
      go_ret
      exact ⟨by rw [hall]; rfl, hbel⟩
    obtain ⟨b, o, eo, c0, c1, c2⟩ := (hr.below hbel (Nat.le_refl _)) i hlt
    subst eo
    have hlt' : (i : Int) < (n : Int) := by omega
    have hi0 : (0 : Int) ≤ (i : Int) := by omega
    have hal := (Below.refl wr.heap.size wr).alloc (Nat.le_refl _) (.cells #[.int .i64 (F i), .int .i64 (T i), .int .i64 (G i)] 82)
    have hB := below_next hbel (Nat.le_refl _) hal
    cases ha : arcB (F i) (T i) (G i) 24
    · have hno := batB_no hlt ha
      go_wp2_with fail
      refine (arcOk_any (F i) (T i) (G i) 24 _).mono ?_
      rintro e w1 ⟨rfl, hb1⟩
      rw [ha]
      go_wp2
      go_ret
      exact ⟨by rw [hno]; rfl, below_next hB (Nat.le_refl _) hb1⟩
    · go_wp2_with fail
      refine (arcOk_any (F i) (T i) (G i) 24 _).mono ?_
      rintro e w1 ⟨rfl, hb1⟩
      rw [ha]
      go_wp2
      go_roundw
      case rel => exact ⟨i + 1, by omega, by go_num, by simp [batB, hall, ha], below_next hB (Nat.le_refl _) hb1⟩
      case measure => simp [intOf]; omega

/-- What a command does, behind the interface. -/
def deedV (K : Int) (ao : Option Addr) (n cap : Nat) (a b : Int) : Value :=
  if K = 1 then .iface 134 (.agg #[])
  else if K = 2 then .iface 136 (.agg #[.slice ao n cap])
  else if K = 3 then .iface 138 (.agg #[.int .i64 a, .int .i64 b])
  else .nilIface


end Go.Proofs.YticckgmkhgnmfaaDoor

/-
  A region that draws its order, taken by hand: an operation whose guard says no.
-/
set_option linter.unusedVariables false
set_option linter.unusedSimpArgs false
namespace Go.Proofs.YticckgmkhgnmfaaDoor
open Go

section
variable {P : Program} {ops : Array Oper} {Q : Exit → Act → World → Prop} {md : Region.Mode} {S : World → Prop}
/-- An operation that is not wanted yields nothing, in whatever order. -/
theorem skipH (i : Nat) (d : Option Tmp) {oi : Oper} {fuel : Nat} {listed : Array Bool} {a : Act} {w : World} (hi : ops[i]? = some oi) (hd : oi.dst = d)
    (hs : Region.noSelect ops = true) (hf : Region.free md ops listed i = true) (hr : (Region.ready md ops listed).contains i = true)
    (hQ : ∀ c a w, Q (.panic c) (a.put oi.dst undef) w → Q (.panic c) a w) (hw : Region.wanted oi (yielded ops a.tmps) = false) (hS : S w)
    (h : wpAnyH P md ops Q S fuel (listed.setIfInBounds i true) (a.put d undef) w) : wpAnyH P md ops Q S (fuel + 1) listed a w :=
  wpAnyH_take hi hs hf hr hQ (.inr ⟨hw, rfl⟩) hS (by rw [hd]; exact h)
/-- The same of one that is alone ready. -/
theorem skip1H (i : Nat) (d : Option Tmp) {oi : Oper} {fuel : Nat} {listed : Array Bool} {a : Act} {w : World} (hi : ops[i]? = some oi) (hd : oi.dst = d) (hr : Region.ready md ops listed = [i])
    (hw : Region.wanted oi (yielded ops a.tmps) = false) (hS : S w)
    (h : wpAnyH P md ops Q S fuel (listed.setIfInBounds i true) (a.put d undef) w) : wpAnyH P md ops Q S (fuel + 1) listed a w :=
  wpAnyH_ready hr (by simp) (AllReadyH.cons hi (fun K hK => by rw [if_neg (by rw [hw]; simp)]; exact hK.out _ _ hS (fun _ => by rw [hd]; exact h)) AllReadyH.nil)
/-- One that yields in every world that keeps to S. -/
theorem takeH (i : Nat) (d : Option Tmp) (v : Value) {oi : Oper} {fuel : Nat} {listed : Array Bool} {a : Act} {w : World} (hi : ops[i]? = some oi) (hd : oi.dst = d)
    (hs : Region.noSelect ops = true) (hf : Region.free md ops listed i = true) (hr : (Region.ready md ops listed).contains i = true)
    (hQ : ∀ c a w, Q (.panic c) (a.put oi.dst v) w → Q (.panic c) a w) (hw : Region.wanted oi (yielded ops a.tmps) = true) (hS : S w) (hy : ∀ w, S w → (execOp a.eval oi).run P w = .ok (.value v) w)
    (h : wpAnyH P md ops Q S fuel (listed.setIfInBounds i true) (a.put d v) w) : wpAnyH P md ops Q S (fuel + 1) listed a w :=
  wpAnyH_take hi hs hf hr hQ (.inl ⟨hw, hy⟩) hS (by rw [hd]; exact h)
/-- An operation that is alone ready and wanted. -/
theorem step1H (i : Nat) (oi : Oper) {fuel : Nat} {listed : Array Bool} {a : Act} {w : World} (hi : ops[i]? = some oi) (hr : Region.ready md ops listed = [i])
    (hw : Region.wanted oi (yielded ops a.tmps) = true) (h : Oper.wp P oi a w (fun a' w' => S w' ∧ wpAnyH P md ops Q S fuel (listed.setIfInBounds i true) a' w') Q) : wpAnyH P md ops Q S (fuel + 1) listed a w :=
  wpAnyH_ready hr (by simp) (AllReadyH.cons hi (fun K hK => by rw [if_pos hw]; exact Oper.wp_mono (fun a' w' h' => hK.out _ _ h'.1 (fun _ => h'.2)) h) AllReadyH.nil)
end

end Go.Proofs.YticckgmkhgnmfaaDoor

/-
  The document's CommandOk answers as the plain function.
-/
set_option linter.unusedVariables false
set_option linter.unusedSimpArgs false
namespace Go.Proofs.YticckgmkhgnmfaaDoor
open Go.ChangeShapes Go.WideShapes Go.ChangeAt Go.RowKit Go.Deep Go.Joins
attribute [local go_sem ↓] Go.wp_at_zero Go.wp_at_succ

set_option maxRecDepth 100000 in
set_option maxHeartbeats 4000000 in
theorem specCommandOk_any (K : Int) (ao : Option Addr) (n cap : Nat) (F T G : Nat → Int) (a b : Int) (hn : n ≤ 1048576) (w : World) (hr : Row w ao n F T G) :
    Calls Tryd.prog 56 #[.agg #[.int .i64 K, .slice ao n cap, .int .i64 a, .int .i64 b]] w fun e w' => e = .returned (.bool (cmdB K n F T G a b)) ∧ Below w.heap.size w w' := by
  by_cases k1 : K = 1
  · subst k1
    by_cases hn0 : n = 0
    · subst hn0
      by_cases ha : a = 0
      · subst ha
        by_cases hb : b = 0
        · subst hb
          rw [show cmdB 1 0 F T G 0 0 = true from by simp [cmdB]]
          go_enter Tryd.func56, Tryd.ntmps56
          go_wp2
          go_ret
          exact ⟨by first | rfl | exact ret_bool (by simp [*]), (Below.refl _ _).alloc (Nat.le_refl _) _⟩
        · skip
          rw [show cmdB 1 0 F T G 0 b = false from by simp [cmdB, hb]]
          go_enter Tryd.func56, Tryd.ntmps56
          go_wp2
          go_ret
          exact ⟨by first | rfl | exact ret_bool (by simp [*]), (Below.refl _ _).alloc (Nat.le_refl _) _⟩
      · skip
        rw [show cmdB 1 0 F T G a b = false from by simp [cmdB, ha]]
        go_enter Tryd.func56, Tryd.ntmps56
        go_wp2
        go_ret
        exact ⟨by first | rfl | exact ret_bool (by simp [*]), (Below.refl _ _).alloc (Nat.le_refl _) _⟩
    · have hn0' : ¬ (n : Int) = 0 := by omega
      rw [show cmdB 1 n F T G a b = false from by simp [cmdB, hn0]]
      go_enter Tryd.func56, Tryd.ntmps56
      go_wp2
      go_ret
      exact ⟨by first | rfl | exact ret_bool (by simp [*]), (Below.refl _ _).alloc (Nat.le_refl _) _⟩
  by_cases k3 : K = 3
  · subst k3
    by_cases hn0 : n = 0
    · subst hn0
      rcases Bool.eq_false_or_eq_true (inB a 0 23) with ha | ha
      · have HQa : Hid (∀ W, Calls Tryd.prog 21 #[.int .i64 a, .int .i64 0, .int .i64 23] W fun e w' => e = .returned (.bool true) ∧ w' = W) := fun W => (l1In_any a 0 23 W).mono (fun e w' h' => ⟨by rw [h'.1, ha], h'.2⟩)
        rcases Bool.eq_false_or_eq_true (inB b 0 23) with hb | hb
        · have HQb : Hid (∀ W, Calls Tryd.prog 21 #[.int .i64 b, .int .i64 0, .int .i64 23] W fun e w' => e = .returned (.bool true) ∧ w' = W) := fun W => (l1In_any b 0 23 W).mono (fun e w' h' => ⟨by rw [h'.1, hb], h'.2⟩)
          rw [show cmdB 3 0 F T G a b = true from by simp [cmdB, ha, hb]]
          go_enter Tryd.func56, Tryd.ntmps56
          go_wp2_with (first | (go_at_call 21; with_reducible refine (HQa.out _).mono ?_; rintro e w1 ⟨rfl, rfl⟩) | (go_at_call 21; with_reducible refine (HQb.out _).mono ?_; rintro e w2 ⟨rfl, rfl⟩))
          go_ret
          exact ⟨by first | rfl | exact ret_bool (by simp [*]), (Below.refl _ _).alloc (Nat.le_refl _) _⟩
        · have HQb : Hid (∀ W, Calls Tryd.prog 21 #[.int .i64 b, .int .i64 0, .int .i64 23] W fun e w' => e = .returned (.bool false) ∧ w' = W) := fun W => (l1In_any b 0 23 W).mono (fun e w' h' => ⟨by rw [h'.1, hb], h'.2⟩)
          rw [show cmdB 3 0 F T G a b = false from by simp [cmdB, ha, hb]]
          go_enter Tryd.func56, Tryd.ntmps56
          go_wp2_with (first | (go_at_call 21; with_reducible refine (HQa.out _).mono ?_; rintro e w1 ⟨rfl, rfl⟩) | (go_at_call 21; with_reducible refine (HQb.out _).mono ?_; rintro e w2 ⟨rfl, rfl⟩))
          go_ret
          exact ⟨by first | rfl | exact ret_bool (by simp [*]), (Below.refl _ _).alloc (Nat.le_refl _) _⟩
      · have HQa : Hid (∀ W, Calls Tryd.prog 21 #[.int .i64 a, .int .i64 0, .int .i64 23] W fun e w' => e = .returned (.bool false) ∧ w' = W) := fun W => (l1In_any a 0 23 W).mono (fun e w' h' => ⟨by rw [h'.1, ha], h'.2⟩)
        rw [show cmdB 3 0 F T G a b = false from by simp [cmdB, ha]]
        go_enter Tryd.func56, Tryd.ntmps56
        go_wp2_with (first | (go_at_call 21; with_reducible refine (HQa.out _).mono ?_; rintro e w1 ⟨rfl, rfl⟩))
        go_ret
        exact ⟨by first | rfl | exact ret_bool (by simp [*]), (Below.refl _ _).alloc (Nat.le_refl _) _⟩
    · have hn0' : ¬ (n : Int) = 0 := by omega
      rw [show cmdB 3 n F T G a b = false from by simp [cmdB, hn0]]
      go_enter Tryd.func56, Tryd.ntmps56
      go_wp2
      go_ret
      exact ⟨by first | rfl | exact ret_bool (by simp [*]), (Below.refl _ _).alloc (Nat.le_refl _) _⟩
  by_cases k2 : K = 2
  rotate_left
  · skip
    rw [show cmdB K n F T G a b = false from by simp [cmdB, k1, k2, k3]]
    go_enter Tryd.func56, Tryd.ntmps56
    go_wp2
    go_ret
    exact ⟨by first | rfl | exact ret_bool (by simp [*]), (Below.refl _ _).alloc (Nat.le_refl _) _⟩
  subst k2
  by_cases h1 : n < 1
  · have h1' : (n : Int) < 1 := by omega
    rw [show cmdB 2 n F T G a b = false from by simp [cmdB, batchB]; omega]
    go_enter Tryd.func56, Tryd.ntmps56
    go_wp2
    go_ret
    exact ⟨by first | rfl | exact ret_bool (by simp [*]), (Below.refl _ _).alloc (Nat.le_refl _) _⟩
  have h1' : ¬ (n : Int) < 1 := by omega
  by_cases h2 : 10 < n
  · have h2' : 10 < (n : Int) := by omega
    rw [show cmdB 2 n F T G a b = false from by simp [cmdB, batchB]; omega]
    go_enter Tryd.func56, Tryd.ntmps56
    go_wp2
    go_ret
    exact ⟨by first | rfl | exact ret_bool (by simp [*]), (Below.refl _ _).alloc (Nat.le_refl _) _⟩
  have h2' : ¬ 10 < (n : Int) := by omega
  by_cases ha : a = 0
  rotate_left
  · skip
    rw [show cmdB 2 n F T G a b = false from by simp [cmdB, ha]]
    go_enter Tryd.func56, Tryd.ntmps56
    go_wp2
    go_ret
    exact ⟨by first | rfl | exact ret_bool (by simp [*]), (Below.refl _ _).alloc (Nat.le_refl _) _⟩
  by_cases hb : b = 0
  rotate_left
  · skip
    rw [show cmdB 2 n F T G a b = false from by simp [cmdB, hb]]
    go_enter Tryd.func56, Tryd.ntmps56
    go_wp2
    go_ret
    exact ⟨by first | rfl | exact ret_bool (by simp [*]), (Below.refl _ _).alloc (Nat.le_refl _) _⟩
  subst ha hb
  rw [show cmdB 2 n F T G 0 0 = batB F T G n from by
    have e1 : decide (1 ≤ n) = true := by simp; omega
    have e2 : decide (n ≤ 10) = true := by simp; omega
    have e3 : batchB F T G n = batB F T G n := by rw [batchB, e1, e2]; rfl
    simp [cmdB, e3]]
  have hal := (Below.refl w.heap.size w).alloc (Nat.le_refl _) (.cells #[.int .i64 2, .slice ao n cap, .int .i64 0, .int .i64 0] 62)
  have x1 : (w.alloc (.cells #[.int .i64 2, .slice ao n cap, .int .i64 0, .int .i64 0] 62)).cell? ⟨w.heap.size, 1, none⟩ = some (.slice ao n cap) := by simp [go_sem]
  have hrw := hr.below hal (Nat.le_refl _)
  go_enter Tryd.func56, Tryd.ntmps56
  go_wp2
  generalize (w.alloc (.cells #[.int .i64 2, .slice ao n cap, .int .i64 0, .int .i64 0] 62)) = W at hal x1 hrw ⊢
  go_loopw [3] (fun x wr => ∃ i : Nat, i ≤ n ∧ x = .int .i64 i ∧ batB F T G i = true ∧ Below W.heap.size W wr) (fun x _ => n - (intOf x).toNat)
  case atStart => exact ⟨0, Nat.zero_le _, rfl, rfl, Below.refl _ _⟩
  case round =>
    obtain ⟨i, hi, rfl, hall, hbel⟩ := hrel
    have hBw := below_next hal (Nat.le_refl _) hbel
    replace x1 := keep_cell hbel (Nat.le_refl _) x1
    by_cases hlt : i < n
    rotate_left
    · obtain rfl : i = n := by omega
      go_wp2
      go_ret
      exact ⟨by rw [hall]; rfl, hBw⟩
    obtain ⟨bb, oo, eo, c0, c1, c2⟩ := (hrw.below hbel (Nat.le_refl _)) i hlt
    subst eo
    have hlt' : (i : Int) < (n : Int) := by omega
    have hi0 : (0 : Int) ≤ (i : Int) := by omega
    cases ha : arcB (F i) (T i) (G i) 24
    · have hno := batB_no hlt ha
      go_wp2_with fail
      refine (l1Arc_any (F i) (T i) (G i) 24 (by omega) (by omega) _).mono ?_
      rintro e w1 ⟨rfl, hb1⟩
      rw [ha]
      go_wp2
      go_ret
      exact ⟨by rw [hno]; rfl, below_next hBw (Nat.le_refl _) hb1⟩
    · go_wp2_with fail
      refine (l1Arc_any (F i) (T i) (G i) 24 (by omega) (by omega) _).mono ?_
      rintro e w1 ⟨rfl, hb1⟩
      rw [ha]
      go_wp2
      go_roundw
      case rel => exact ⟨i + 1, by omega, by go_num, by simp [batB, hall, ha], below_next hbel (Nat.le_refl _) hb1⟩
      case measure => simp [intOf]; omega

end Go.Proofs.YticckgmkhgnmfaaDoor

/-
  A region that draws its order, taken by hand: two operations that are ready; an operation that yields, makes or stores.
-/
set_option linter.unusedVariables false
set_option linter.unusedSimpArgs false
namespace Go.Proofs.YticckgmkhgnmfaaDoor
open Go

theorem wp_of_run {P : Program} {o : Oper} {a : Act} {w : World} {K : Act → World → Prop} {Q : Exit → Act → World → Prop} {v : Value} (h : (execOp a.eval o).run P w = .ok (.value v) w) (hK : K (a.put o.dst v) w) : o.wp P a w K Q := by
  unfold Oper.wp
  rw [h]
  exact hK
theorem wp_of_skip {P : Program} {o : Oper} {a : Act} {w w' : World} {K : Act → World → Prop} {Q : Exit → Act → World → Prop} (h : (execOp a.eval o).run P w = .ok .skip w') (hK : K (a.put o.dst undef) w') : o.wp P a w K Q := by
  unfold Oper.wp
  rw [h]
  exact hK
theorem wp_of_made {P : Program} {o : Oper} {a : Act} {w w' : World} {K : Act → World → Prop} {Q : Exit → Act → World → Prop} {v : Value} (h : (execOp a.eval o).run P w = .ok (.value v) w') (hK : K (a.put o.dst v) w') : o.wp P a w K Q := by
  unfold Oper.wp
  rw [h]
  exact hK
/-- Two operations that are ready: either may come first. -/
theorem step2H {P : Program} {ops : Array Oper} {Q : Exit → Act → World → Prop} {md : Region.Mode} {S : World → Prop} (i j : Nat) (oi oj : Oper) {fuel : Nat} {listed : Array Bool} {a : Act} {w : World} (hi : ops[i]? = some oi) (hj : ops[j]? = some oj) (hr : Region.ready md ops listed = [i, j])
    (hwi : Region.wanted oi (yielded ops a.tmps) = true) (hwj : Region.wanted oj (yielded ops a.tmps) = true)
    (h1 : Oper.wp P oi a w (fun a' w' => S w' ∧ wpAnyH P md ops Q S fuel (listed.setIfInBounds i true) a' w') Q) (h2 : Oper.wp P oj a w (fun a' w' => S w' ∧ wpAnyH P md ops Q S fuel (listed.setIfInBounds j true) a' w') Q) : wpAnyH P md ops Q S (fuel + 1) listed a w :=
  wpAnyH_ready hr (by simp) (AllReadyH.cons hi (fun K hK => by rw [if_pos hwi]; exact Oper.wp_mono (fun a' w' h' => hK.out _ _ h'.1 (fun _ => h'.2)) h1) (AllReadyH.cons hj (fun K hK => by rw [if_pos hwj]; exact Oper.wp_mono (fun a' w' h' => hK.out _ _ h'.1 (fun _ => h'.2)) h2) AllReadyH.nil))

end Go.Proofs.YticckgmkhgnmfaaDoor
