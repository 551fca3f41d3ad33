/-
  The program's number of a word, by strconv.ParseInt and strconv.FormatInt.
-/
import Derived.Test.YtmnohgcjdhokdaeDoorNum
import Derived.Test.YtmnohgcjdhokdaeDoorGrP
set_option linter.unusedVariables false
set_option linter.unusedSimpArgs false
namespace Go.Proofs.YtmnohgcjdhokdaeDoor
open Go.RowKit

/-- What ParseInt and FormatInt read: two errors and a table. -/
structure Vars (w : World) : Prop where
  tab : Tab w
  syn : ∃ te pe, w.cell? ⟨4, 0, none⟩ = some (.iface te pe)
  rng : ∃ te pe, w.cell? ⟨5, 0, none⟩ = some (.iface te pe)
theorem Vars.below {w w' : World} (h : Vars w) (hb : Below w.heap.size w w') : Vars w' :=
  ⟨h.tab.below hb (Nat.le_refl _), by obtain ⟨a, b, c⟩ := h.syn; exact ⟨a, b, keep_cell hb (Nat.le_refl _) c⟩, by obtain ⟨a, b, c⟩ := h.rng; exact ⟨a, b, keep_cell hb (Nat.le_refl _) c⟩⟩
theorem showNum_all (n : Int) (h0 : -9223372036854775808 ≤ n) (h1 : n ≤ 9223372036854775807) (w : World) (ht : Tab w) :
    Calls Tryd.prog 19 #[.int .i64 n] w fun e w' => e = .returned (txt (Lib.itoa n)) ∧ Below w.heap.size w w' := by
  go_enter Tryd.func19, Tryd.ntmps19
  go_wp2_with fail
  refine (fmtInt_any n h0 h1 _ ht).mono ?_
  rintro e w' ⟨rfl, hb⟩
  go_wp2
  go_ret
  exact ⟨rfl, hb⟩
/-- A number that is answered, and whether it is one. -/
def NumAns (e : Ending) (r : Option Int) : Prop := e = .returned (.tuple #[.int .i64 (r.getD 0), .bool r.isSome])
set_option maxHeartbeats 1000000 in
theorem readNumber_any (s : ByteArray) (hs : s.size ≤ 1048576) (w : World) (hV : Vars w) :
    Calls Tryd.prog 41 #[.string s] w fun e w' => NumAns e (num1 s.data.toList) ∧ Below w.heap.size w w' := by
  obtain ⟨te, pe, hsyn⟩ := hV.syn
  obtain ⟨tr, pr, hrng⟩ := hV.rng
  obtain ⟨r, HR⟩ : ∃ r, Hid (r = rdNum s.data.toList) := ⟨_, rfl⟩
  rw [← rdNum_is, ← HR.out]
  cases hp : Lib.parseIntB 64 s.data.toList with
  | «syntax» =>
    have hr : rdNum s.data.toList = none := by unfold rdNum; rw [hp]
    have HE : Hid (r = none) := HR.out.trans hr
    clear hr HR
    go_enter Tryd.func41, Tryd.ntmps41
    go_wp2_with fail
    refine (Tryd.strconv_ParseInt_10_at64_syntax s (by omega) hp (.iface te pe) _ hsyn (.inr ⟨_, _, rfl⟩)).mono ?_
    rintro e w1 ⟨N, rfl, hN, hc, hb⟩
    go_wp2
    exact bodyPost_ret (v := .tuple #[.int .i64 0, .bool false]) (by simp [results, Tryd.results41, go_sem]) rfl ⟨by rw [HE.out]; rfl, hb⟩
  | range =>
    have hr : rdNum s.data.toList = none := by unfold rdNum; rw [hp]
    have HE : Hid (r = none) := HR.out.trans hr
    clear hr HR
    go_enter Tryd.func41, Tryd.ntmps41
    go_wp2_with fail
    refine (Tryd.strconv_ParseInt_10_at64_range s (by omega) hp (.iface tr pr) _ hrng (.inr ⟨_, _, rfl⟩)).mono ?_
    rintro e w1 ⟨N, rfl, hN, hc, hb⟩
    go_wp2
    exact bodyPost_ret (v := .tuple #[.int .i64 0, .bool false]) (by simp [results, Tryd.results41, go_sem]) rfl ⟨by rw [HE.out]; rfl, hb⟩
  | ok v =>
    have hr : rdNum s.data.toList = if v < -999999999 ∨ 999999999 < v ∨ Lib.itoa v ≠ s.data.toList then none else some v := by unfold rdNum; rw [hp]
    have HR2 : Hid (r = if v < -999999999 ∨ 999999999 < v ∨ Lib.itoa v ≠ s.data.toList then none else some v) := HR.out.trans hr
    clear hr HR
    go_enter Tryd.func41, Tryd.ntmps41
    go_wp2_with fail
    refine (Tryd.strconv_ParseInt_10_at64_ok s (by omega) v hp _).mono ?_
    rintro e w1 ⟨rfl, hw⟩
    have hb : Below w.heap.size w w1 := by
      rcases hw with rfl | ⟨t, rfl⟩
      · exact Below.refl _ _
      · exact Lib.bytesWorld_below _ _ _
    clear hw
    by_cases h0 : v < -999999999
    · have HE : Hid (r = none) := HR2.out.trans (if_pos (.inl h0))
      go_wp2
      exact bodyPost_ret (v := .tuple #[.int .i64 0, .bool false]) (by simp [results, Tryd.results41, go_sem]) rfl ⟨by rw [HE.out]; rfl, hb⟩
    by_cases h1 : 999999999 < v
    · have HE : Hid (r = none) := HR2.out.trans (if_pos (.inr (.inl h1)))
      go_wp2
      exact bodyPost_ret (v := .tuple #[.int .i64 0, .bool false]) (by simp [results, Tryd.results41, go_sem]) rfl ⟨by rw [HE.out]; rfl, hb⟩
    go_wp2_with fail
    refine (showNum_all v (by omega) (by omega) _ (hV.tab.below hb (Nat.le_refl _))).mono ?_
    rintro e w2 ⟨rfl, hb2⟩
    have hb3 := below_next hb (Nat.le_refl _) hb2
    by_cases h2 : Lib.itoa v = s.data.toList
    · have HE : Hid (r = some v) := HR2.out.trans (if_neg (fun c => c.elim (fun c => absurd c (by omega)) (fun c => c.elim (fun c => absurd c (by omega)) (fun c => c h2))))
      have h3 : (⟨(Lib.itoa v).toArray⟩ : ByteArray) = s := by rw [h2]
      unfold txt
      rw [h3]
      go_wp2
      exact bodyPost_ret (v := .tuple #[.int .i64 v, .bool true]) (by simp [results, Tryd.results41, go_sem]) rfl ⟨by rw [HE.out]; rfl, hb3⟩
    · have HE : Hid (r = none) := HR2.out.trans (if_pos (.inr (.inr h2)))
      have h4 : (Lib.itoa v == s.toList) = false := by rw [ByteArray.toList_eq]; exact beq_eq_false_iff_ne.2 h2
      go_wp2
      exact bodyPost_ret (v := .tuple #[.int .i64 0, .bool false]) (by simp [results, Tryd.results41, go_sem]) rfl ⟨by rw [HE.out]; rfl, hb3⟩

end Go.Proofs.YtmnohgcjdhokdaeDoor
