/-
  The program's name and numbers of a text: read by states that are labels. For every text of at most 2^20 bytes.
-/
import Derived.Test.YtcmeppjfjledfakDoorWdsP
import Derived.Test.YtcmeppjfjledfakDoorJumps
import Derived.Test.YtcmeppjfjledfakDoorOwnI
import Derived.Test.YtcmeppjfjledfakDoorNumsR
import Derived.WalkMore
set_option linter.unusedVariables false
set_option linter.unusedSimpArgs false
namespace Go.Proofs.YtcmeppjfjledfakDoor
open Go.RowKit
attribute [local go_sem ↓] Go.wp_at_zero Go.wp_at_succ

theorem OwnE.congr {w : World} {base n cap : Nat} {go : Option Addr} {f g : Nat → Int} (h : OwnE w base go n cap f) (e : ∀ j, j < n → f j = g j) : OwnE w base go n cap g := by
  unfold OwnE at h ⊢
  rw [← icells_congr e]
  exact h
theorem ahead_full {l : List UInt8} {out : List Int} (h : out.length = 30) : inums l (.ahead out) = none := by
  cases l with
  | nil => rfl
  | cons c t => simp [inums, h]
def szOf : Value → Nat
  | .string t => t.size
  | _ => 0
/-- How far each label is from the end. -/
def mu5 (l : Nat) (a : Act) (_ : World) : Nat := if l = 2 then 0 else if l = 3 then 2 * szOf (a.tmps.getD 9 undef) + 3 else if l = 4 then 2 * szOf (a.tmps.getD 9 undef) + 3 else 2 * szOf (a.tmps.getD 9 undef) + 2
/-- A name and numbers that are answered, and whether they are any. -/
def WAns (w w' : World) (e : Ending) (T : Option (List UInt8 × List Int)) : Prop :=
  ∃ (nm : ByteArray) (ns : List Int) (ok : Bool) (go : Option Addr) (gc : Nat), e = .returned (.tuple #[.string nm, .slice go ns.length gc, .bool ok]) ∧ ((ok = true ∧ T = some (nm.data.toList, ns)) ∨ (ok = false ∧ T = none)) ∧ ns.length ≤ 30 ∧ OwnE w' w.heap.size go ns.length gc (gd ns) ∧ Below w.heap.size w w'

def WJ0 (s : ByteArray) (w : World) (a : Act) (w' : World) : Prop := ∃ (ρ : ByteArray) (u5 : Value) (us : Nat → Value), a = { tmps := #[.string s, undef, .string ⟨#[]⟩, .slice none 0 0, .bool false, u5, .string ⟨#[]⟩, .int .i64 0, .slice none 0 0, .string ρ, us 10, us 11, us 12, us 13, us 14, us 15, us 16, us 17, us 18, us 19, us 20, us 21, us 22, us 23, us 24, us 25, us 26, us 27, us 28, us 29, us 30, us 31, us 32, us 33, us 34, us 35, us 36, us 37, us 38, us 39, us 40, us 41, us 42, us 43, us 44, us 45, us 46, us 47, us 48, us 49, us 50, us 51, us 52, us 53, us 54, us 55, us 56, us 57, us 58, us 59, us 60, us 61, us 62, us 63, us 64, us 65, us 66, us 67, us 68, us 69, us 70, us 71, us 72, us 73, us 74, us 75, us 76, us 77, us 78, us 79, us 80, us 81], defers := [] } ∧ Hid (NameAt s.data.toList ρ.data.toList) ∧ ρ.size ≤ 1048576 ∧ Below w.heap.size w w'
def WJ1 (s : ByteArray) (w : World) (a : Act) (w' : World) : Prop := ∃ (ρ nm : ByteArray) (out : List Int) (go : Option Addr) (gc k : Nat) (u5 u7 : Value) (us : Nat → Value), a = { tmps := #[.string s, undef, .string ⟨#[]⟩, .slice none 0 0, .bool false, u5, .string nm, u7, .slice go k gc, .string ρ, us 10, us 11, us 12, us 13, us 14, us 15, us 16, us 17, us 18, us 19, us 20, us 21, us 22, us 23, us 24, us 25, us 26, us 27, us 28, us 29, us 30, us 31, us 32, us 33, us 34, us 35, us 36, us 37, us 38, us 39, us 40, us 41, us 42, us 43, us 44, us 45, us 46, us 47, us 48, us 49, us 50, us 51, us 52, us 53, us 54, us 55, us 56, us 57, us 58, us 59, us 60, us 61, us 62, us 63, us 64, us 65, us 66, us 67, us 68, us 69, us 70, us 71, us 72, us 73, us 74, us 75, us 76, us 77, us 78, us 79, us 80, us 81], defers := [] } ∧ Hid (wds s.data.toList = (inums ρ.data.toList (.ahead out)).map (fun ns => (nm.data.toList, ns))) ∧ Hid (k = out.length) ∧ k ≤ 30 ∧ ρ.size ≤ 1048576 ∧ OwnE w' w.heap.size go k gc (gd out) ∧ Below w.heap.size w w'
def WJ2 (s : ByteArray) (w : World) (a : Act) (w' : World) : Prop := ∃ (u5 u6 u7 u8 u9 : Value) (us : Nat → Value), a = { tmps := #[.string s, undef, .string ⟨#[]⟩, .slice none 0 0, .bool false, u5, u6, u7, u8, u9, us 10, us 11, us 12, us 13, us 14, us 15, us 16, us 17, us 18, us 19, us 20, us 21, us 22, us 23, us 24, us 25, us 26, us 27, us 28, us 29, us 30, us 31, us 32, us 33, us 34, us 35, us 36, us 37, us 38, us 39, us 40, us 41, us 42, us 43, us 44, us 45, us 46, us 47, us 48, us 49, us 50, us 51, us 52, us 53, us 54, us 55, us 56, us 57, us 58, us 59, us 60, us 61, us 62, us 63, us 64, us 65, us 66, us 67, us 68, us 69, us 70, us 71, us 72, us 73, us 74, us 75, us 76, us 77, us 78, us 79, us 80, us 81], defers := [] } ∧ Hid (wds s.data.toList = none) ∧ Below w.heap.size w w'
def WJ3 (s : ByteArray) (w : World) (a : Act) (w' : World) : Prop := ∃ (ρ nm : ByteArray) (out : List Int) (go : Option Addr) (gc k : Nat) (r n : Int) (us : Nat → Value), a = { tmps := #[.string s, undef, .string ⟨#[]⟩, .slice none 0 0, .bool false, .int .i32 r, .string nm, .int .i64 n, .slice go k gc, .string ρ, us 10, us 11, us 12, us 13, us 14, us 15, us 16, us 17, us 18, us 19, us 20, us 21, us 22, us 23, us 24, us 25, us 26, us 27, us 28, us 29, us 30, us 31, us 32, us 33, us 34, us 35, us 36, us 37, us 38, us 39, us 40, us 41, us 42, us 43, us 44, us 45, us 46, us 47, us 48, us 49, us 50, us 51, us 52, us 53, us 54, us 55, us 56, us 57, us 58, us 59, us 60, us 61, us 62, us 63, us 64, us 65, us 66, us 67, us 68, us 69, us 70, us 71, us 72, us 73, us 74, us 75, us 76, us 77, us 78, us 79, us 80, us 81], defers := [] } ∧ Hid (wds s.data.toList = (bhd r ρ.data.toList (out ++ [n])).map (fun ns => (nm.data.toList, ns))) ∧ Hid (k = out.length) ∧ k < 30 ∧ ρ.size ≤ 1048576 ∧ OwnE w' w.heap.size go k gc (gd out) ∧ Below w.heap.size w w'
def WJ4 (s : ByteArray) (w : World) (a : Act) (w' : World) : Prop := ∃ (ρ nm : ByteArray) (out : List Int) (go : Option Addr) (gc k : Nat) (r n : Int) (us : Nat → Value), a = { tmps := #[.string s, undef, .string ⟨#[]⟩, .slice none 0 0, .bool false, .int .i32 r, .string nm, .int .i64 n, .slice go k gc, .string ρ, us 10, us 11, us 12, us 13, us 14, us 15, us 16, us 17, us 18, us 19, us 20, us 21, us 22, us 23, us 24, us 25, us 26, us 27, us 28, us 29, us 30, us 31, us 32, us 33, us 34, us 35, us 36, us 37, us 38, us 39, us 40, us 41, us 42, us 43, us 44, us 45, us 46, us 47, us 48, us 49, us 50, us 51, us 52, us 53, us 54, us 55, us 56, us 57, us 58, us 59, us 60, us 61, us 62, us 63, us 64, us 65, us 66, us 67, us 68, us 69, us 70, us 71, us 72, us 73, us 74, us 75, us 76, us 77, us 78, us 79, us 80, us 81], defers := [] } ∧ Hid (wds s.data.toList = (if 999999999 < 10 * n + (r - 48) then none else inums ρ.data.toList (.within (10 * n + (r - 48)) out)).map (fun ns => (nm.data.toList, ns))) ∧ Hid (k = out.length) ∧ k < 30 ∧ ρ.size ≤ 1048576 ∧ (48 ≤ r ∧ r ≤ 57) ∧ (0 ≤ n ∧ n ≤ 999999999) ∧ OwnE w' w.heap.size go k gc (gd out) ∧ Below w.heap.size w w'

set_option maxHeartbeats 8000000 in
set_option maxRecDepth 20000 in
theorem readWords_any (s : ByteArray) (hs : s.size ≤ 1048576) (w : World) :
    Calls Tryd.prog 40 #[.string s] w fun e w' => WAns w w' e (wds s.data.toList) := by
  obtain ⟨T, hT⟩ : ∃ T, T = wds s.data.toList := ⟨_, rfl⟩
  rw [← hT]
  have HT : Hid (T = wds s.data.toList) := hT
  clear hT
  go_enter Tryd.func40, Tryd.ntmps40
  go_wp2
  refine wp_scope5 rfl rfl rfl rfl rfl
    (WJ0 s w)
    (WJ1 s w)
    (WJ2 s w)
    (WJ3 s w)
    (WJ4 s w) mu5 ?_ ?_ ?_ ?_ ?_ ?_
  · -- refused
    rintro a w' ⟨u5, u6, u7, u8, u9, us, rfl, HN, hB⟩
    go_wp2
    simp only [jumps_ret]
    refine bodyPost_ret (v := .tuple #[.string ⟨#[]⟩, .slice none 0 0, .bool false]) (by simp [results, Tryd.results40, go_sem]) rfl ?_
    exact ⟨⟨#[]⟩, [], false, none, 0, rfl, .inr ⟨rfl, by rw [HT.out, HN.out]⟩, by simp, OwnE.nil _ _ _, hB⟩
  · -- behind a number
    rintro H2 a w' ⟨ρ, nm, out, go, gc, k, r, n, us, rfl, HW, HK, hk, hρ, hO, hB⟩
    have hO2 : OwnE (w'.alloc (.cells #[.int .i64 n] 2)) w.heap.size go k gc (gd (out ++ [n])) := (hO.next ((Below.refl w'.heap.size w').alloc (Nat.le_refl _) (.cells #[.int .i64 n] 2))).congr (fun j hj => (gd_snoc_lt (by have := HK.out; omega)).symm)
    have hBs := hB.size
    have HG : Hid (gd (out ++ [n]) k = n) := by
      show _ = _
      rw [HK.out]
      exact gd_snoc_at out n
    have HL : Hid ((out ++ [n]).length = k + 1) := by
      show _ = _
      rw [HK.out]
      simp
    by_cases h32 : r = 32
    · subst h32
      go_wp2_with (at_builtin; refine wpList_plain rfl fun _ hK => wp_append_own (.tmp 71) (.tmp 73) rfl w.heap.size k gc go (gd (out ++ [n])) rfl hO2 w'.heap.size rfl (by rw [HG.out]; simp [go_sem]) (by omega) (by simp; omega) fun g' gc' w3 hown3 hgrow3 hat3 => hK _ _ ?_)
      have hB3 := (hB.alloc (o := .cells #[.int .i64 n] 2) hBs).grown hgrow3 (by simp; omega) (fun j hj => (hO.at hj).1)
      go_step3
      refine ⟨⟨ρ, nm, out ++ [n], some ⟨g', 0, none⟩, gc', k + 1, _, _, (fun i => ([_, _, _, _, _, _, _, _, _, _, _, _, _, _, _, _, _, _, _, _, _, _, _, _, _, _, _, _, _, _, _, _, _, _, _, _, _, _, _, _, _, _, _, _, _, _, _, _, _, _, _, _, _, _, _, _, _, _, _, _, _, _, _, _, _, _, _, _, _, _, _, _] : List Value).getD (i - 10) undef), rfl, ?_, HL.out.symm, by omega, hρ, hown3, hB3⟩, by simp [mu5, szOf]⟩
      show _ = _
      rw [HW.out]
      rfl
    by_cases h1 : r = -1
    · subst h1
      go_wp2_with (at_builtin; refine wpList_plain rfl fun _ hK => wp_append_own (.tmp 71) (.tmp 73) rfl w.heap.size k gc go (gd (out ++ [n])) rfl hO2 w'.heap.size rfl (by rw [HG.out]; simp [go_sem]) (by omega) (by simp; omega) fun g' gc' w3 hown3 hgrow3 hat3 => hK _ _ ?_)
      have hB3 := (hB.alloc (o := .cells #[.int .i64 n] 2) hBs).grown hgrow3 (by simp; omega) (fun j hj => (hO.at hj).1)
      simp only [jumps_ret]
      refine bodyPost_ret (v := .tuple #[.string nm, .slice (some ⟨g', 0, none⟩) (k + 1) gc', .bool true]) (by simp [results, Tryd.results40, go_sem]) rfl ?_
      exact ⟨nm, out ++ [n], true, some ⟨g', 0, none⟩, gc', by rw [HL.out], .inl ⟨rfl, by rw [HT.out, HW.out]; rfl⟩, by rw [HL.out]; omega, by rw [HL.out]; exact hown3, hB3⟩
    have h32b : (r == 32) = false := by simpa using h32
    have h1b : (r == -1) = false := by simpa using h1
    have HNO : Hid (wds s.data.toList = none) := by
      show _ = _
      rw [HW.out]
      simp [bhd, h32, h1]
    clear h32 h1
    go_wp2_with (at_builtin; refine wpList_plain rfl fun _ hK => wp_append_own (.tmp 71) (.tmp 73) rfl w.heap.size k gc go (gd (out ++ [n])) rfl hO2 w'.heap.size rfl (by rw [HG.out]; simp [go_sem]) (by omega) (by simp; omega) fun g' gc' w3 hown3 hgrow3 hat3 => hK _ _ ?_)
    have hB3 := (hB.alloc (o := .cells #[.int .i64 n] 2) hBs).grown hgrow3 (by simp; omega) (fun j hj => (hO.at hj).1)
    refine wp_label ?_
    rename_i hKK
    refine hKK _ _ (pass_on (Nat.zero_le _) (H2 _ _ ⟨_, _, _, _, _, (fun i => ([_, _, _, _, _, _, _, _, _, _, _, _, _, _, _, _, _, _, _, _, _, _, _, _, _, _, _, _, _, _, _, _, _, _, _, _, _, _, _, _, _, _, _, _, _, _, _, _, _, _, _, _, _, _, _, _, _, _, _, _, _, _, _, _, _, _, _, _, _, _, _, _] : List Value).getD (i - 10) undef), rfl, HNO, hB3⟩))
  · -- within a number
    rintro H3 a w' ⟨ρ, nm, out, go, gc, k, r, n, us, rfl, HW, HK, hk, hρ, ⟨hr1, hr2⟩, ⟨hn1, hn2⟩, hO, hB⟩
    by_cases hbig : 999999999 < 10 * n + (r - 48)
    · go_wp2
      go_step3
      refine ⟨⟨_, _, _, _, _, (fun i => ([_, _, _, _, _, _, _, _, _, _, _, _, _, _, _, _, _, _, _, _, _, _, _, _, _, _, _, _, _, _, _, _, _, _, _, _, _, _, _, _, _, _, _, _, _, _, _, _, _, _, _, _, _, _, _, _, _, _, _, _, _, _, _, _, _, _, _, _, _, _, _, _] : List Value).getD (i - 10) undef), rfl, ?_, hB⟩, by simp [mu5, szOf]⟩
      show _ = _
      rw [HW.out, if_pos hbig]
      rfl
    go_wp2_with fail
    refine (cutRune_any ρ hρ _).mono ?_
    rintro e w1 ⟨r1, ρ1, rfl, hc, hb1⟩
    have hcb := hc.bd
    have hcl := hc.len
    have hO1 := hO.next hb1
    have hB1 := below_next hB (Nat.le_refl _) hb1
    have hρ1 : ρ1.size ≤ ρ.size := by simpa using hcl.1
    cases hd : digB r1
    · have hnd : ¬ (48 ≤ r1 ∧ r1 ≤ 57) := fun e => by simp [digB, e] at hd
      go_wp2_with (go_at_call 48; refine (isDigit_any _ _).mono ?_; rintro e w2 ⟨rfl, hq⟩; have hq' := hq.symm; subst hq'; clear hq; rw [hd])
      refine wp_label ?_
      rename_i hKK
      refine hKK _ _ (pass_on ?_ (H3 _ _ ⟨ρ1, nm, out, go, gc, k, r1, _, (fun i => ([_, _, _, _, _, _, _, _, _, _, _, _, _, _, _, _, _, _, _, _, _, _, _, _, _, _, _, _, _, _, _, _, _, _, _, _, _, _, _, _, _, _, _, _, _, _, _, _, _, _, _, _, _, _, _, _, _, _, _, _, _, _, _, _, _, _, _, _, _, _, _, _] : List Value).getD (i - 10) undef), rfl, ?_, HK, hk, by omega, hO1, hB1⟩))
      · simp [mu5, szOf]; omega
      · show _ = _
        rw [HW.out, if_neg (by omega), (within_cut hc).2 hnd]
    · have hnd : 48 ≤ r1 ∧ r1 ≤ 57 := by simpa [digB] using hd
      have hlt : ρ1.size < ρ.size := by simpa using hcl.2 (by omega)
      go_wp2_with (go_at_call 48; refine (isDigit_any _ _).mono ?_; rintro e w2 ⟨rfl, hq⟩; have hq' := hq.symm; subst hq'; clear hq; rw [hd])
      go_step3
      refine ⟨⟨ρ1, nm, out, go, gc, k, r1, _, (fun i => ([_, _, _, _, _, _, _, _, _, _, _, _, _, _, _, _, _, _, _, _, _, _, _, _, _, _, _, _, _, _, _, _, _, _, _, _, _, _, _, _, _, _, _, _, _, _, _, _, _, _, _, _, _, _, _, _, _, _, _, _, _, _, _, _, _, _, _, _, _, _, _, _] : List Value).getD (i - 10) undef), rfl, ?_, HK, hk, by omega, hnd, ⟨?_, ?_⟩, hO1, hB1⟩, by simp [mu5, szOf]; omega⟩
      · show _ = _
        rw [HW.out, if_neg (by omega), (within_cut hc).1 hnd]
      · omega
      · omega
  · -- ahead of a number
    rintro H4 a w' ⟨ρ, nm, out, go, gc, k, u5, u7, us, rfl, HW, HK, hk, hρ, hO, hB⟩
    by_cases h30 : k = 30
    · subst h30
      go_wp2
      go_step3
      refine ⟨⟨_, _, _, _, _, (fun i => ([_, _, _, _, _, _, _, _, _, _, _, _, _, _, _, _, _, _, _, _, _, _, _, _, _, _, _, _, _, _, _, _, _, _, _, _, _, _, _, _, _, _, _, _, _, _, _, _, _, _, _, _, _, _, _, _, _, _, _, _, _, _, _, _, _, _, _, _, _, _, _, _] : List Value).getD (i - 10) undef), rfl, ?_, hB⟩, by simp [mu5, szOf]⟩
      show _ = _
      have h := HK.out
      rw [HW.out, ahead_full h.symm]
      rfl
    have h30' : ((k : Int) == 30) = false := by simp; omega
    have h30i : ¬ (k : Int) = 30 := by omega
    have ho : out.length ≠ 30 := fun e => h30 (by rw [HK.out]; exact e)
    have HO : Hid (out.length ≠ 30) := ho
    clear ho h30
    go_wp2_with fail
    refine (cutRune_any ρ hρ _).mono ?_
    rintro e w1 ⟨r1, ρ1, rfl, hc, hb1⟩
    have hcb := hc.bd
    have hcl := hc.len
    have hO1 := hO.next hb1
    have hB1 := below_next hB (Nat.le_refl _) hb1
    have hρ1 : ρ1.size ≤ ρ.size := by simpa using hcl.1
    by_cases h48 : r1 = 48
    · subst h48
      have hlt : ρ1.size < ρ.size := by simpa using hcl.2 (by omega)
      go_wp2_with fail
      refine (cutRune_any ρ1 (by omega) _).mono ?_
      rintro e w2 ⟨r2, ρ2, rfl, hc2, hb2⟩
      have hcl2 := hc2.len
      have hρ2 : ρ2.size ≤ ρ1.size := by simpa using hcl2.1
      go_wp2
      go_step3
      refine ⟨⟨ρ2, nm, out, go, gc, k, r2, 0, (fun i => ([_, _, _, _, _, _, _, _, _, _, _, _, _, _, _, _, _, _, _, _, _, _, _, _, _, _, _, _, _, _, _, _, _, _, _, _, _, _, _, _, _, _, _, _, _, _, _, _, _, _, _, _, _, _, _, _, _, _, _, _, _, _, _, _, _, _, _, _, _, _, _, _] : List Value).getD (i - 10) undef), rfl, ?_, HK, by omega, by omega, hO1.next hb2, below_next hB1 (Nat.le_refl _) hb2⟩, by simp [mu5, szOf]; omega⟩
      show _ = _
      rw [HW.out, (ahead_cut hc HO.out).1 rfl, behind_cut hc2]
    have h48b : (r1 == 48) = false := by simpa using h48
    cases hd : digB r1
    · have hnd : ¬ (48 ≤ r1 ∧ r1 ≤ 57) := fun e => by simp [digB, e] at hd
      go_wp2_with (go_at_call 48; refine (isDigit_any _ _).mono ?_; rintro e w2 ⟨rfl, hq⟩; have hq' := hq.symm; subst hq'; clear hq; rw [hd])
      go_step3
      refine ⟨⟨_, _, _, _, _, (fun i => ([_, _, _, _, _, _, _, _, _, _, _, _, _, _, _, _, _, _, _, _, _, _, _, _, _, _, _, _, _, _, _, _, _, _, _, _, _, _, _, _, _, _, _, _, _, _, _, _, _, _, _, _, _, _, _, _, _, _, _, _, _, _, _, _, _, _, _, _, _, _, _, _] : List Value).getD (i - 10) undef), rfl, ?_, hB1⟩, by simp [mu5, szOf]⟩
      show _ = _
      rw [HW.out, (ahead_cut hc HO.out).2.2 hnd]
      rfl
    · have hnd : 48 ≤ r1 ∧ r1 ≤ 57 := by simpa [digB] using hd
      have hlt : ρ1.size < ρ.size := by simpa using hcl.2 (by omega)
      go_wp2_with (go_at_call 48; refine (isDigit_any _ _).mono ?_; rintro e w2 ⟨rfl, hq⟩; have hq' := hq.symm; subst hq'; clear hq; rw [hd])
      refine wp_label ?_
      rename_i hKK
      refine hKK _ _ (pass_on ?_ (H4 _ _ ⟨ρ1, nm, out, go, gc, k, r1, 0, (fun i => ([_, _, _, _, _, _, _, _, _, _, _, _, _, _, _, _, _, _, _, _, _, _, _, _, _, _, _, _, _, _, _, _, _, _, _, _, _, _, _, _, _, _, _, _, _, _, _, _, _, _, _, _, _, _, _, _, _, _, _, _, _, _, _, _, _, _, _, _, _, _, _, _] : List Value).getD (i - 10) undef), rfl, ?_, HK, by omega, by omega, hnd, ⟨by omega, by omega⟩, hO1, hB1⟩))
      · simp [mu5, szOf]; omega
      · show _ = _
        rw [HW.out, (ahead_cut hc HO.out).2.1 ⟨by omega, hnd.2⟩, if_neg (by omega)]
        simp
  · -- in the name
    rintro a w' ⟨ρ, u5, us, rfl, HW, hρ, hB⟩
    go_wp2_with fail
    refine (cutRune_any ρ hρ _).mono ?_
    rintro e w1 ⟨r1, ρ1, rfl, hc, hb1⟩
    have hcb := hc.bd
    have hcl := hc.len
    have hB1 := below_next hB (Nat.le_refl _) hb1
    have hρ1 : ρ1.size ≤ ρ.size := by simpa using hcl.1
    by_cases hl : 97 ≤ r1 ∧ r1 ≤ 122
    · obtain ⟨hl1, hl2⟩ := hl
      have hlt : ρ1.size < ρ.size := by simpa using hcl.2 (by omega)
      go_wp2
      go_step3
      exact ⟨⟨ρ1, _, (fun i => ([_, _, _, _, _, _, _, _, _, _, _, _, _, _, _, _, _, _, _, _, _, _, _, _, _, _, _, _, _, _, _, _, _, _, _, _, _, _, _, _, _, _, _, _, _, _, _, _, _, _, _, _, _, _, _, _, _, _, _, _, _, _, _, _, _, _, _, _, _, _, _, _] : List Value).getD (i - 10) undef), rfl, name_letter HW.out hc hl1 hl2, by omega, hB1⟩, by simp [mu5, szOf]; omega⟩
    have hor : r1 < 97 ∨ (97 ≤ r1 ∧ 122 < r1) := by omega
    by_cases h32 : r1 = 32
    · subst h32
      have hlt : ρ1.size < ρ.size := by simpa using hcl.2 (by omega)
      obtain ⟨hb, hbl⟩ := name_blank HW.out hc
      have HBL : Hid (wds s.data.toList = (inums ρ1.data.toList (.ahead [])).map (fun ns => (s.data.toList.take (s.data.toList.length - ρ1.data.toList.length - 1), ns))) := hb
      simp only [Array.length_toList, ByteArray.size_data] at hbl
      clear hb
      have hb1' : (0 : Int) ≤ (s.size : Int) - (ρ1.size : Int) - 1 := by omega
      have hb2' : (s.size : Int) - (ρ1.size : Int) - 1 ≤ (s.size : Int) := by omega
      clear hor hl
      go_wp2
      go_step3
      refine ⟨⟨ρ1, _, [], none, 0, 0, _, _, (fun i => ([_, _, _, _, _, _, _, _, _, _, _, _, _, _, _, _, _, _, _, _, _, _, _, _, _, _, _, _, _, _, _, _, _, _, _, _, _, _, _, _, _, _, _, _, _, _, _, _, _, _, _, _, _, _, _, _, _, _, _, _, _, _, _, _, _, _, _, _, _, _, _, _] : List Value).getD (i - 10) undef), rfl, ?_, rfl, by omega, by omega, OwnE.nil _ _ _, hB1⟩, by simp [mu5, szOf]; omega⟩
      show _ = _
      rw [HBL.out, extract_list, List.drop_zero]
      congr 3
    have h32b : (r1 == 32) = false := by simpa using h32
    by_cases h1 : r1 = -1
    · subst h1
      have hend := name_end HW.out hc
      have HE : Hid (T = some (s.data.toList, [])) := by
        show _ = _
        rw [HT.out, hend]
      clear hend hor hl
      go_wp2
      simp only [jumps_ret]
      refine bodyPost_ret (v := .tuple #[.string s, .slice none 0 0, .bool true]) (by simp [results, Tryd.results40, go_sem]) rfl ?_
      exact ⟨s, [], true, none, 0, rfl, .inl ⟨rfl, HE.out⟩, by simp, OwnE.nil _ _ _, hB1⟩
    have h1b : (r1 == -1) = false := by simpa using h1
    have HNO : Hid (wds s.data.toList = none) := name_other HW.out hc hl h32 h1
    clear hl h32 h1
    rcases hor with hl1 | ⟨hl1, hl2⟩
    · go_wp2
      go_step3
      exact ⟨⟨_, _, _, _, _, (fun i => ([_, _, _, _, _, _, _, _, _, _, _, _, _, _, _, _, _, _, _, _, _, _, _, _, _, _, _, _, _, _, _, _, _, _, _, _, _, _, _, _, _, _, _, _, _, _, _, _, _, _, _, _, _, _, _, _, _, _, _, _, _, _, _, _, _, _, _, _, _, _, _, _] : List Value).getD (i - 10) undef), rfl, HNO, hB1⟩, by simp [mu5, szOf]⟩
    · go_wp2
      go_step3
      exact ⟨⟨_, _, _, _, _, (fun i => ([_, _, _, _, _, _, _, _, _, _, _, _, _, _, _, _, _, _, _, _, _, _, _, _, _, _, _, _, _, _, _, _, _, _, _, _, _, _, _, _, _, _, _, _, _, _, _, _, _, _, _, _, _, _, _, _, _, _, _, _, _, _, _, _, _, _, _, _, _, _, _, _] : List Value).getD (i - 10) undef), rfl, HNO, hB1⟩, by simp [mu5, szOf]⟩
  · intro H0
    go_wp2
    refine wp_label ?_
    rename_i hKK
    refine hKK _ _ (pass_in (H0 _ _ ⟨s, _, (fun i => ([_, _, _, _, _, _, _, _, _, _, _, _, _, _, _, _, _, _, _, _, _, _, _, _, _, _, _, _, _, _, _, _, _, _, _, _, _, _, _, _, _, _, _, _, _, _, _, _, _, _, _, _, _, _, _, _, _, _, _, _, _, _, _, _, _, _, _, _, _, _, _, _] : List Value).getD (i - 10) undef), rfl, ⟨[], rfl, rfl⟩, hs, Below.refl _ _⟩))

end Go.Proofs.YtcmeppjfjledfakDoor
