/-
  Helpers, merged: DrawLg, DrawLh, DrawN, DrawLi, DrawLj, Ans, FnBig.
-/
import Derived.Test.YtcmeppjfjledfacDoorPack5
import Derived.Test.YtcmeppjfjledfacDoorPack3
import Derived.Test.YtcmeppjfjledfacDoorPack1
import Derived.Test.YtcmeppjfjledfacDoorPack2
import Derived.Deep.QuietTactic
/-
  The document's draws of chapter 10: a text, a log. What is drawn is told by existence alone.
-/
set_option linter.unusedVariables false
set_option linter.unusedSimpArgs false
namespace Go.Proofs.YtcmeppjfjledfacDoor
open Go.RowKit
attribute [local go_sem ↓] Go.wp_at_zero Go.wp_at_succ

theorem gr_then {w w1 w2 : World} {row : Option Nat} {B : Nat} (h : w.grownBy w1 row) (hb : Below B w1 w2) (hB : w.heap.size ≤ B) : w.grownBy w2 row :=
  ⟨hb.os.trans h.os, hb.tape.trans h.tape, hb.output.trans h.output, Nat.le_trans h.size hb.size, fun k hk hne => (hb.block k (by omega)).trans (h.block k hk hne)⟩
theorem gr_of_b {w w' : World} {b : Option Nat} (hb : Below w.heap.size w w') : w.grownBy w' b := ⟨hb.os, hb.tape, hb.output, hb.size, fun k hk _ => hb.block k hk⟩
/-- Entries of the call's own, short texts. -/
def NOwnE (w : World) (base : Nat) (lo : Option Addr) (k lc : Nat) : Prop := ∃ (T : Nat → Int) (X : Nat → ByteArray), (∀ j, j < k → (X j).size ≤ 100) ∧ w.ownsRow base 47 2 (.slice lo k lc) k (nCells T X k) ∧ ∃ g, lo = some ⟨g, 0, none⟩
theorem NOwnE.grown {w w' : World} {base k lc x : Nat} {lo : Option Addr} (h : NOwnE w base lo k lc) (hg : w.grownBy w' (some x)) (hx : x < base) : NOwnE w' base lo k lc := by
  obtain ⟨T, X, hX, ⟨hl, ho⟩, hg0⟩ := h
  refine ⟨T, X, hX, ⟨hl, ?_⟩, hg0⟩
  rcases ho with h | ⟨g, cap, cur, e, hb, hblk, h1, h2, h3, h4⟩
  · exact .inl h
  · exact .inr ⟨g, cap, cur, e, hb, by rw [hg.block g (Array.getElem?_eq_some_iff.1 hblk).1 (by simp; omega)]; exact hblk, h1, h2, h3, h4⟩
theorem NOwnE.next {w w' : World} {base k lc : Nat} {lo : Option Addr} (h : NOwnE w base lo k lc) (hb' : Below w.heap.size w w') : NOwnE w' base lo k lc := by
  obtain ⟨T, X, hX, ⟨hl, ho⟩, hg0⟩ := h
  refine ⟨T, X, hX, ⟨hl, ?_⟩, hg0⟩
  rcases ho with h | ⟨g, cap, cur, e, hb, hblk, h1, h2, h3, h4⟩
  · exact .inl h
  · exact .inr ⟨g, cap, cur, e, hb, by rw [hb'.block g (Array.getElem?_eq_some_iff.1 hblk).1]; exact hblk, h1, h2, h3, h4⟩
theorem NOwnE.new (w : World) : NOwnE (w.alloc (.cells #[] 47)) w.heap.size (some ⟨w.heap.size, 0, none⟩) 0 0 := ⟨fun _ => 0, fun _ => ByteArray.empty, fun j hj => by omega, empty_ownsN w, _, rfl⟩
/-- One more entry behind them. -/
theorem NOwnE.add {w' : World} {base k lc g : Nat} {T : Nat → Int} {X : Nat → ByteArray} {t : Int} {x : ByteArray} (hX : ∀ j, j < k → (X j).size ≤ 100) (hx : x.size ≤ 100) (ho : w'.ownsRow base 47 2 (.slice (some ⟨g, 0, none⟩) (k + 1) lc) (k + 1) (nCells T X k ++ nCells (fun _ => t) (fun _ => x) 1)) : NOwnE w' base (some ⟨g, 0, none⟩) (k + 1) lc := by
  refine ⟨fun j => if j < k then T j else t, fun j => if j < k then X j else x, fun j hj => ?_, ?_, _, rfl⟩
  · by_cases h : j < k
    · simp only [if_pos h]; exact hX j h
    · simp only [if_neg h]; exact hx
  · rw [← nCells_app (T := T) (U := fun _ => t) (X := X) (Y := fun _ => x) (a := k) (b := 1) _ _ (fun j hj => ⟨by simp [hj], by simp [hj]⟩) (fun j hj => ⟨if_neg (by omega), if_neg (by omega)⟩)]
    exact ho

theorem owns_alloc {w : World} {base : Nat} {e : TypeId} {size : Nat} {v : Value} {k : Nat} {xs : List Value} (h : w.ownsRow base e size v k xs) (o : Obj) : (w.alloc o).ownsRow base e size v k xs := by
  obtain ⟨hl, ho⟩ := h
  refine ⟨hl, ?_⟩
  rcases ho with h | ⟨g, cap, cur, e, hb, hblk, h1, h2, h3, h4⟩
  · exact .inl h
  · exact .inr ⟨g, cap, cur, e, hb, by rw [((Below.refl w.heap.size w).alloc (Nat.le_refl _) o).block g (Array.getElem?_eq_some_iff.1 hblk).1]; exact hblk, h1, h2, h3, h4⟩
theorem new_entry (w : World) (t : Int) (x : ByteArray) : NRow (w.alloc (.cells #[.int .i64 t, .string x] 47)) (some ⟨w.heap.size, 0, none⟩) 1 (fun _ => t) (fun _ => x) := fun k hk => by
  obtain rfl : k = 0 := by omega
  exact ⟨_, _, rfl, by simp [go_sem], by simp [go_sem]⟩
theorem CurAt.keep {w w' : World} {base c B : Nat} {ao : Option Addr} {n cap : Nat} (h : CurAt w base c ao n cap) (hb : Below B w w') (hB : c < B) : CurAt w' base c ao n cap := by
  obtain ⟨hge, hlen, hby, i, h0, h1, h2, hv⟩ := h
  exact ⟨hge, hlen, hby.below hb (by omega), i, h0, h1, h2, hv.below hb hB⟩

set_option maxHeartbeats 1000000 in
theorem l10DrawText_any (base c : Nat) (ao : Option Addr) (n cap : Nat) (w : World) (hC : CurAt w base c ao n cap) :
    Calls Tryd.prog 50 #[.pointer (some ⟨c, 0, none⟩)] w fun e w' => ∃ x : ByteArray, e = .returned (.string x) ∧ x.size ≤ 100 ∧ CurAt w' base c ao n cap ∧ w.grownBy w' (some c) := by
  go_enter Tryd.func50, Tryd.ntmps50
  have hal : ∀ o, Below w.heap.size w (w.alloc o) := fun o => (Below.refl _ _).alloc (Nat.le_refl _) o
  have hcl := hC.lt
  go_wp2_with fail
  refine (l1Below_any base c ao n cap 6 (by omega) (by omega) _ (hC.next (hal _))).mono ?_
  rintro e w1 ⟨x, rfl, hx, hC1, hg1⟩
  have hx' : x < 6 := by omega
  have hb1 := hg1.block w.heap.size (by simp) (by simp; omega)
  rw [Go.Deep.blk_alloc_new] at hb1
  have hgr : w.grownBy w1 (some c) := (gr_of_b (hal _)).trans hg1
  have hcell : ∀ (j : Nat) (v : Value), (#[.string { data := #[110, 111, 110, 101] }, .string { data := #[97, 115, 107, 32, 48, 32, 49] }, .string { data := #[97, 115, 107, 32, 49, 32, 48] }, .string { data := #[119, 101, 105, 103, 104, 32, 48, 32, 49, 32, 51] }, .string { data := #[119, 101, 105, 103, 104, 32, 48, 32, 49, 32, 55] }, .string { data := #[97, 115, 107, 32, 48, 32, 50] }] : Array Value)[j]? = some v → w1.cell? ⟨w.heap.size, j, none⟩ = some v := fun j v hj => by
    simp only [World.cell?, hb1]
    exact hj
  have hcase : x = 0 ∨ x = 1 ∨ x = 2 ∨ x = 3 ∨ x = 4 ∨ x = 5 := by omega
  clear hb1 hg1
  rcases hcase with rfl | rfl | rfl | rfl | rfl | rfl
  · have hq := hcell 0 _ rfl
    clear hcell
    go_wp2
    go_ret
    exact ⟨_, rfl, by decide, hC1, hgr⟩
  · have hq := hcell 1 _ rfl
    clear hcell
    go_wp2
    go_ret
    exact ⟨_, rfl, by decide, hC1, hgr⟩
  · have hq := hcell 2 _ rfl
    clear hcell
    go_wp2
    go_ret
    exact ⟨_, rfl, by decide, hC1, hgr⟩
  · have hq := hcell 3 _ rfl
    clear hcell
    go_wp2
    go_ret
    exact ⟨_, rfl, by decide, hC1, hgr⟩
  · have hq := hcell 4 _ rfl
    clear hcell
    go_wp2
    go_ret
    exact ⟨_, rfl, by decide, hC1, hgr⟩
  · have hq := hcell 5 _ rfl
    clear hcell
    go_wp2
    go_ret
    exact ⟨_, rfl, by decide, hC1, hgr⟩

set_option maxHeartbeats 1000000 in
theorem l10Draw_any (base c : Nat) (ao : Option Addr) (n cap : Nat) (w : World) (hC : CurAt w base c ao n cap) :
    Calls Tryd.prog 70 #[.pointer (some ⟨c, 0, none⟩)] w fun e w' => ∃ (lo : Option Addr) (k lc : Nat), e = .returned (.slice lo k lc) ∧ k ≤ 6 ∧ NOwnE w' w.heap.size lo k lc ∧ CurAt w' base c ao n cap ∧ w.grownBy w' (some c) := by
  have hal : ∀ o, Below w.heap.size w (w.alloc o) := fun o => (Below.refl _ _).alloc (Nat.le_refl _) o
  have hcl := hC.lt
  go_enter Tryd.func70, Tryd.ntmps70
  go_wp2_with fail
  refine (l1Below_any base c ao n cap 7 (by omega) (by omega) _ (hC.next (hal _))).mono ?_
  rintro e w1 ⟨x, rfl, hx, hC1, hg1⟩
  have hO1 : NOwnE w1 w.heap.size (some ⟨w.heap.size, 0, none⟩) 0 0 := (NOwnE.new w).grown hg1 hcl
  have hgr1 : w.grownBy w1 (some c) := (gr_of_b (hal _)).trans hg1
  go_wp2
  go_loopw [3, 4, 5] (fun a t q wr => ∃ (lo : Option Addr) (k lc r : Nat) (tt : Int), a = .slice lo k lc ∧ t = .int .i64 tt ∧ q = .int .i64 r ∧ r + k ≤ 6 ∧ NOwnE wr w.heap.size lo k lc ∧ CurAt wr base c ao n cap ∧ w.grownBy wr (some c)) (fun _ _ q _ => (intOf q).toNat)
  case atStart => exact ⟨_, 0, 0, x, 1, rfl, rfl, rfl, by omega, hO1, hC1, hgr1⟩
  case round =>
    obtain ⟨lo, k, lc, r, tt, rfl, rfl, rfl, hrk, hO, hCr, hgr⟩ := hrel
    by_cases hz : 0 < r
    rotate_left
    · obtain rfl : r = 0 := by omega
      go_wp2
      go_ret
      exact ⟨lo, k, lc, rfl, by omega, hO, hCr, hgr⟩
    have hz' : (0 : Int) < (r : Int) := by omega
    have hrw : IntKind.i64.wrap ((r : Int) - 1) = ((r - 1 : Nat) : Int) := by rw [IntKind.wrap_i64]; omega
    go_wp2_with fail
    refine (l1Below_any base c ao n cap 3 (by omega) (by omega) _ hCr).mono ?_
    rintro e w2 ⟨y, rfl, hy, hC2, hg2⟩
    have hO2 := hO.grown hg2 hcl
    have hgr2 := hgr.trans hg2
    go_wp2_with fail
    refine (l10DrawText_any base c ao n cap _ hC2).mono ?_
    rintro e w3 ⟨s3, rfl, hs3, hC3, hg3⟩
    obtain ⟨T, X, hX, hown, g, rfl⟩ := hO2.grown hg3 hcl
    have hgr3 := hgr2.trans hg3
    have hz3 := hgr3.size
    clear hO hO2 hC2 hCr
    go_wp2_with (at_builtin; refine wpList_appN rfl _ _ rfl w.heap.size g k lc (nCells T X k) rfl (owns_alloc hown _) (some ⟨w3.heap.size, 0, none⟩) 1 1 (fun _ => _) (fun _ => s3) rfl (new_entry w3 _ _) (by omega) (by simp; omega) ?_; intro g' cap' w4 hown' hb4)
    have hb34 : Below w.heap.size w3 w4 := ((Below.refl w.heap.size w3).alloc hz3 _).trans hb4
    have hC4 : CurAt w4 base c ao n cap := hC3.keep hb34 hcl
    have hO4 := NOwnE.add hX hs3 hown'
    have hgr4 := gr_then hgr3 hb34 (Nat.le_refl _)
    clear hown hown' hC3 hb4
    go_wp2
    go_roundw
    case rel => exact ⟨_, k + 1, _, r - 1, _, rfl, rfl, by go_num, by omega, hO4, hC4, hgr4⟩
    case measure => simp [intOf]; omega

end Go.Proofs.YtcmeppjfjledfacDoor

/-
  The document's draw of any log of chapter 10.
-/
set_option linter.unusedVariables false
set_option linter.unusedSimpArgs false
namespace Go.Proofs.YtcmeppjfjledfacDoor
open Go.RowKit
attribute [local go_sem ↓] Go.wp_at_zero Go.wp_at_succ

theorem owns_grown {w w' : World} {base : Nat} {e : TypeId} {size x : Nat} {v : Value} {k : Nat} {xs : List Value} (h : w.ownsRow base e size v k xs) (hg : w.grownBy w' (some x)) (hx : x < base) : w'.ownsRow base e size v k xs := by
  obtain ⟨hl, ho⟩ := h
  refine ⟨hl, ?_⟩
  rcases ho with h | ⟨g, cap, cur, e, hb, hblk, h1, h2, h3, h4⟩
  · exact .inl h
  · exact .inr ⟨g, cap, cur, e, hb, by rw [hg.block g (Array.getElem?_eq_some_iff.1 hblk).1 (by simp; omega)]; exact hblk, h1, h2, h3, h4⟩
theorem NOwnE.from' {w : World} {base base' k lc : Nat} {lo : Option Addr} (h : NOwnE w base lo k lc) (hb' : base' ≤ base) : NOwnE w base' lo k lc := by
  obtain ⟨T, X, hX, ⟨hl, ho⟩, hg0⟩ := h
  refine ⟨T, X, hX, ⟨hl, ?_⟩, hg0⟩
  rcases ho with h | ⟨g, cap, cur, e, hb, hblk, h1, h2, h3, h4⟩
  · exact .inl h
  · exact .inr ⟨g, cap, cur, e, by omega, hblk, h1, h2, h3, h4⟩

set_option maxHeartbeats 2000000 in
theorem l10DrawAny_any (base c : Nat) (ao : Option Addr) (n cap : Nat) (w : World) (hC : CurAt w base c ao n cap) :
    Calls Tryd.prog 45 #[.pointer (some ⟨c, 0, none⟩)] w fun e w' => ∃ (lo : Option Addr) (k lc : Nat), e = .returned (.slice lo k lc) ∧ k ≤ 201 ∧ NOwnE w' w.heap.size lo k lc ∧ CurAt w' base c ao n cap ∧ w.grownBy w' (some c) := by
  have hcl := hC.lt
  go_enter Tryd.func45, Tryd.ntmps45
  go_wp2_with fail
  refine (l10Draw_any base c ao n cap _ hC).mono ?_
  rintro e w1 ⟨lo, k, lc, rfl, hk, hO1, hC1, hg1⟩
  go_wp2_with fail
  refine (l1Once_any base c ao n cap 10 (by omega) (by omega) _ hC1).mono ?_
  rintro e w2 ⟨b, rfl, hC2, hg2⟩
  have hO2 := hO1.grown hg2 hcl
  have hgr2 := hg1.trans hg2
  cases b
  · go_wp2
    go_ret
    exact ⟨lo, k, lc, rfl, by omega, hO2, hC2, hgr2⟩
  go_wp2_with fail
  refine (l1Below_any base c ao n cap 3 (by omega) (by omega) _ hC2).mono ?_
  rintro e w3 ⟨x, rfl, hx, hC3, hg3⟩
  obtain ⟨T, X, hX, hown, g, rfl⟩ := hO2.grown hg3 hcl
  have hgr3 := hgr2.trans hg3
  have hz3 := hgr3.size
  clear hO1 hO2 hC1 hC2 hg1 hg2 hg3
  have hcase : x = 0 ∨ x = 1 ∨ x = 2 := by omega
  have hal : ∀ o, Below w3.heap.size w3 (w3.alloc o) := fun o => (Below.refl _ _).alloc (Nat.le_refl _) o
  rcases hcase with rfl | rfl | rfl
  · go_wp2_with fail
    refine (l1Below_any base c ao n cap 5 (by omega) (by omega) _ (hC3.next (hal _))).mono ?_
    rintro e w4 ⟨x, rfl, hx, hC4, hg4⟩
    have hb4 := hg4.block w3.heap.size (by simp) (by simp; omega)
    rw [Go.Deep.blk_alloc_new] at hb4
    have hgr4 : w.grownBy w4 (some c) := (hgr3.trans (gr_of_b (hal _))).trans hg4
    have hx' : x < 5 := by omega
    obtain ⟨E, hE⟩ : ∃ E : Int, w4.cell? ⟨w3.heap.size, x, none⟩ = some (.int .i64 E) := by
      have hc : x = 0 ∨ x = 1 ∨ x = 2 ∨ x = 3 ∨ x = 4 := by omega
      rcases hc with rfl | rfl | rfl | rfl | rfl <;> simp only [World.cell?, hb4] <;> exact ⟨_, rfl⟩
    have hown4 := (owns_grown (owns_alloc hown _) hg4 hcl)
    have hz4 := hgr4.size
    have hx9 : (x : Int) < 5 := by omega
    clear hb4 hg4 hown hC3
    go_wp2_with (at_builtin; refine wpList_appN rfl _ _ rfl w.heap.size g k lc (nCells T X k) rfl (owns_alloc hown4 _) (some ⟨w4.heap.size, 0, none⟩) 1 1 (fun _ => _) (fun _ => _) rfl (new_entry w4 _ _) (by omega) (by simp; omega) ?_; intro g' cap' w5 hown' hb5)
    have hb45 : Below w.heap.size w4 w5 := ((Below.refl w.heap.size w4).alloc hz4 _).trans hb5
    have hC5 : CurAt w5 base c ao n cap := hC4.keep hb45 hcl
    have hO5 := NOwnE.add hX (by decide) hown'
    have hgr5 := gr_then hgr4 hb45 (Nat.le_refl _)
    clear hown4 hown' hC4 hb5
    go_wp2
    go_ret
    exact ⟨_, _, _, rfl, by omega, hO5, hC5, hgr5⟩
  · go_wp2_with fail
    refine (l1Below_any base c ao n cap 4 (by omega) (by omega) _ (hC3.next (hal _))).mono ?_
    rintro e w4 ⟨x, rfl, hx, hC4, hg4⟩
    have hb4 := hg4.block w3.heap.size (by simp) (by simp; omega)
    rw [Go.Deep.blk_alloc_new] at hb4
    have hgr4 : w.grownBy w4 (some c) := (hgr3.trans (gr_of_b (hal _))).trans hg4
    have hx' : x < 4 := by omega
    obtain ⟨E, hE0, hE⟩ : ∃ E : ByteArray, E.size ≤ 100 ∧ w4.cell? ⟨w3.heap.size, x, none⟩ = some (.string E) := by
      have hc : x = 0 ∨ x = 1 ∨ x = 2 ∨ x = 3 := by omega
      rcases hc with rfl | rfl | rfl | rfl <;> simp only [World.cell?, hb4] <;> exact ⟨_, by decide, rfl⟩
    have hown4 := (owns_grown (owns_alloc hown _) hg4 hcl)
    have hz4 := hgr4.size
    have hx9 : (x : Int) < 4 := by omega
    clear hb4 hg4 hown hC3
    go_wp2_with (at_builtin; refine wpList_appN rfl _ _ rfl w.heap.size g k lc (nCells T X k) rfl (owns_alloc hown4 _) (some ⟨w4.heap.size, 0, none⟩) 1 1 (fun _ => _) (fun _ => _) rfl (new_entry w4 _ _) (by omega) (by simp; omega) ?_; intro g' cap' w5 hown' hb5)
    have hb45 : Below w.heap.size w4 w5 := ((Below.refl w.heap.size w4).alloc hz4 _).trans hb5
    have hC5 : CurAt w5 base c ao n cap := hC4.keep hb45 hcl
    have hO5 := NOwnE.add hX hE0 hown'
    have hgr5 := gr_then hgr4 hb45 (Nat.le_refl _)
    clear hown4 hown' hC4 hb5
    go_wp2
    go_ret
    exact ⟨_, _, _, rfl, by omega, hO5, hC5, hgr5⟩
  · have hO3 : NOwnE (w3.alloc (.cells #[] 47)) w.heap.size (some ⟨w3.heap.size, 0, none⟩) 0 0 := (NOwnE.new w3).from' hz3
    have hC3' := hC3.next (hal (.cells #[] 47))
    have hgr3' : w.grownBy (w3.alloc (.cells #[] 47)) (some c) := hgr3.trans (gr_of_b (hal _))
    clear hown hC3 hX
    go_wp2
    go_loopw [3, 4] (fun a q wr => ∃ (lo : Option Addr) (k lc : Nat), a = .slice lo k lc ∧ q = .int .i64 (k : Int) ∧ k ≤ 201 ∧ NOwnE wr w.heap.size lo k lc ∧ CurAt wr base c ao n cap ∧ w.grownBy wr (some c)) (fun _ q _ => 300 - (intOf q).toNat)
    case atStart => exact ⟨_, 0, 0, rfl, rfl, by omega, hO3, hC3', hgr3'⟩
    case round =>
      obtain ⟨lo, k, lc, rfl, rfl, hk9, hO, hCr, hgr⟩ := hrel
      go_wp2_with fail
      refine (l1Below_any base c ao n cap 2 (by omega) (by omega) _ hCr).mono ?_
      rintro e w4 ⟨y, rfl, hy, hC4, hg4⟩
      have hO4 := hO.grown hg4 hcl
      have hgr4 := hgr.trans hg4
      have hz4 := hgr4.size
      have hyw : IntKind.i64.wrap (200 + (y : Int)) = 200 + (y : Int) := by rw [IntKind.wrap_i64]; omega
      by_cases hlt : (k : Int) < 200 + (y : Int)
      rotate_left
      · go_wp2
        go_ret
        exact ⟨lo, k, lc, rfl, hk9, hO4, hC4, hgr4⟩
      obtain ⟨T, X, hX, hown, g, rfl⟩ := hO4
      clear hO hCr hg4 hgr
      have hkw : IntKind.i64.wrap ((k : Int) + 1) = (k : Int) + 1 := by rw [IntKind.wrap_i64]; omega
      go_wp2_with (at_builtin; refine wpList_appN rfl _ _ rfl w.heap.size g k lc (nCells T X k) rfl (owns_alloc hown _) (some ⟨w4.heap.size, 0, none⟩) 1 1 (fun _ => _) (fun _ => _) rfl (new_entry w4 _ _) (by omega) (by simp; omega) ?_; intro g' cap' w5 hown' hb5)
      have hb45 : Below w.heap.size w4 w5 := ((Below.refl w.heap.size w4).alloc hz4 _).trans hb5
      have hC5 : CurAt w5 base c ao n cap := hC4.keep hb45 hcl
      have hO5 := NOwnE.add hX (by decide) hown'
      have hgr5 := gr_then hgr4 hb45 (Nat.le_refl _)
      clear hown hown' hC4 hb5
      go_wp2
      go_roundw
      case rel => exact ⟨_, k + 1, _, rfl, by go_num, by omega, hO5, hC5, hgr5⟩
      case measure => simp [intOf]; omega

end Go.Proofs.YtcmeppjfjledfacDoor

/-
  A new cursor.
-/
set_option linter.unusedVariables false
set_option linter.unusedSimpArgs false
namespace Go.Proofs.YtcmeppjfjledfacDoor
open Go.RowKit Go.Maps
attribute [local go_sem ↓] Go.wp_at_zero Go.wp_at_succ

set_option maxHeartbeats 1000000 in
theorem l1New_any (ao : Option Addr) (n cap : Nat) (hn : n ≤ 4096) (w : World) (hr : ByRow w w.heap.size ao n) :
    Calls Tryd.prog 39 #[.slice ao n cap] w fun e w' => ∃ c, e = .returned (.pointer (some ⟨c, 0, none⟩)) ∧ CurAt w' w.heap.size c ao n cap ∧ Below w.heap.size w w' := by
  go_enter Tryd.func39, Tryd.ntmps39
  go_wp2
  go_loopw [3, 4] (fun x i wr => ∃ (k : Nat) (h : Int), k ≤ n ∧ x = .int .i64 h ∧ i = .int .i64 k ∧ wr = w) (fun _ i _ => n - (intOf i).toNat)
  case atStart => exact ⟨0, _, Nat.zero_le _, rfl, rfl, rfl⟩
  case round =>
    obtain ⟨k, h, hk, rfl, rfl, rfl⟩ := hrel
    by_cases hlt : k < n
    · obtain ⟨b, o, v, hao, hbb, hcb, hv0, hv1⟩ := hr k hlt
      subst hao
      go_wp2
      go_roundw
      case rel => exact ⟨k + 1, _, by omega, rfl, by go_num, by first | trivial | rfl⟩
      case measure => simp [intOf]; omega
    · go_wp2
      go_ret
      refine ⟨_, rfl, ⟨Nat.le_refl _, hn, hr.below ((Below.refl _ _).alloc (Nat.le_refl _) _) (Nat.le_refl _), 0, h, by omega, by omega, ?_⟩, (Below.refl _ _).alloc (Nat.le_refl _) _⟩
      exact ⟨_, Go.Deep.blk_alloc_new _ _, by simp, fun j hj => by
        have : j = 0 ∨ j = 1 ∨ j = 2 := by omega
        rcases this with rfl | rfl | rfl <;> rfl⟩

end Go.Proofs.YtcmeppjfjledfacDoor

/-
  The document's draws for chapter 10's laws: a log with a number and a Term, a log with a number and entries.
-/
set_option linter.unusedVariables false
set_option linter.unusedSimpArgs false
namespace Go.Proofs.YtcmeppjfjledfacDoor
open Go.RowKit
attribute [local go_sem ↓] Go.wp_at_zero Go.wp_at_succ

/-- Entries with short texts lie behind a slice. -/
def NLst (w : World) (lo : Option Addr) (k lc : Nat) : Prop := ∃ (T : Nat → Int) (X : Nat → ByteArray), NRow w lo k T X ∧ (∀ j, j < k → (X j).size ≤ 100) ∧ k ≤ lc
theorem NOwnE.lst {w : World} {base k lc : Nat} {lo : Option Addr} (h : NOwnE w base lo k lc) : NLst w lo k lc := by
  obtain ⟨T, X, hX, hown, g, rfl⟩ := h
  refine ⟨T, X, nhas_row (nhas_of_owns hown rfl).1, hX, ?_⟩
  rcases hown.2 with ⟨e, _⟩ | ⟨g', cap, cur, e, _, _, h2, _⟩
  · cases e
  · simp only [Value.slice.injEq, Option.some.injEq, Addr.mk.injEq, and_true, true_and] at e
    obtain ⟨rfl, rfl⟩ := e
    exact h2
theorem NLst.below {w w' : World} {lo : Option Addr} {k lc : Nat} (h : NLst w lo k lc) (hb : Below w.heap.size w w') : NLst w' lo k lc := by
  obtain ⟨T, X, hr, hX, hk⟩ := h
  exact ⟨T, X, hr.below hb (Nat.le_refl _), hX, hk⟩

set_option maxHeartbeats 1000000 in
theorem l10DrawAt_any (base c : Nat) (ao : Option Addr) (n cap : Nat) (B : Nat) (lo : Option Addr) (k lc : Nat) (hk : k ≤ 201) (w : World) (hcB : c < B) (hO : NOwnE w B lo k lc) (hC : CurAt w base c ao n cap) :
    Calls Tryd.prog 46 #[.pointer (some ⟨c, 0, none⟩), .slice lo k lc] w fun e w' => ∃ (i t : Int), e = .returned (.tuple #[.int .i64 i, .int .i64 t]) ∧ CurAt w' base c ao n cap ∧ w.grownBy w' (some c) := by
  have hcl := hC.lt
  have hkw : IntKind.i64.wrap ((k : Int) + 2) = (k : Int) + 2 := by rw [IntKind.wrap_i64]; omega
  go_enter Tryd.func46, Tryd.ntmps46
  go_wp2_with fail
  refine (l1Below_any base c ao n cap ((k : Int) + 2) (by omega) (by omega) _ hC).mono ?_
  rintro e w1 ⟨x, rfl, hx, hC1, hg1⟩
  go_wp2_with fail
  refine (l1Once_any base c ao n cap 14 (by omega) (by omega) _ hC1).mono ?_
  rintro e w2 ⟨b, rfl, hC2, hg2⟩
  have hO2 := (hO.grown hg1 hcB).grown hg2 hcB
  have hgr2 := hg1.trans hg2
  clear hC1 hg1 hg2 hO
  -- WALK
  cases b
  · obtain ⟨I, hI⟩ : ∃ I : Int, (x : Int) = I := ⟨_, rfl⟩
    rw [hI]
    go_wp2_with fail
    refine (l1Below_any base c ao n cap 5 (by omega) (by omega) _ hC2).mono ?_
    rintro e w8 ⟨t, rfl, ht, hC8, hg8⟩
    have hO8 := (hO2).grown hg8 hcB
    have hgr8 := (hgr2).trans hg8
    rcases Bool.eq_false_or_eq_true (inB (I) 1 (k : Int)) with hin | hin
    · have hl : 1 ≤ (I) ∧ (I) ≤ (k : Int) := by simpa [inB] using hin
      have HI : ∀ W, Calls Tryd.prog 35 #[.int .i64 (I), .int .i64 1, .int .i64 (k : Int)] W fun e w' => e = .returned (.bool true) ∧ w' = W := fun W => by rw [← hin]; exact l1In_any _ _ _ _
      have hne : ¬ (I) = 0 := by omega
      go_wp2_with fail
      refine (HI _).mono ?_
      rintro e w9 ⟨rfl, hq⟩
      have hq' := hq.symm
      subst hq'
      clear hq
      go_wp2_with fail
      refine (l1Once_any base c ao n cap 4 (by omega) (by omega) _ hC8).mono ?_
      rintro e w10 ⟨b, rfl, hC10, hg10⟩
      obtain ⟨T, X, hrow, _, _⟩ := (hO8.grown hg10 hcB).lst
      have hgr10 := hgr8.trans hg10
      cases b
      · obtain ⟨j, rfl⟩ : ∃ j : Nat, I = (j : Int) + 1 := ⟨(I - 1).toNat, by omega⟩
        obtain ⟨bb, oo, hlo, c0, c1⟩ := hrow j (by omega)
        subst hlo
        have e1 : IntKind.i64.wrap ((j : Int) + 1 - 1) = (j : Int) := by rw [IntKind.wrap_i64]; omega
        have e2 : (j : Int) + 1 - 1 = (j : Int) := by omega
        have e3 : (j : Int) < (k : Int) := by omega
        go_wp2
        exact bodyPost_ret (v := .tuple #[.int .i64 ((j : Int) + 1), .int .i64 (T j)]) (by simp [results, Tryd.results46, go_sem]) rfl ⟨_, _, rfl, hC10, hgr10⟩
      · go_wp2
        exact bodyPost_ret (v := .tuple #[.int .i64 (I), .int .i64 (t)]) (by simp [results, Tryd.results46, go_sem]) rfl ⟨_, _, rfl, hC10, hgr10⟩
    have HI : ∀ W, Calls Tryd.prog 35 #[.int .i64 (I), .int .i64 1, .int .i64 (k : Int)] W fun e w' => e = .returned (.bool false) ∧ w' = W := fun W => by rw [← hin]; exact l1In_any _ _ _ _
    by_cases hz : (I) = 0
    · subst hz
      go_wp2_with fail
      refine (HI _).mono ?_
      rintro e w9 ⟨rfl, hq⟩
      have hq' := hq.symm
      subst hq'
      clear hq
      go_wp2_with fail
      refine (l1Once_any base c ao n cap 4 (by omega) (by omega) _ hC8).mono ?_
      rintro e w10 ⟨b, rfl, hC10, hg10⟩
      have hgr10 := hgr8.trans hg10
      cases b
      · go_wp2
        exact bodyPost_ret (v := .tuple #[.int .i64 (0), .int .i64 (0)]) (by simp [results, Tryd.results46, go_sem]) rfl ⟨_, _, rfl, hC10, hgr10⟩
      · go_wp2
        exact bodyPost_ret (v := .tuple #[.int .i64 (0), .int .i64 (t)]) (by simp [results, Tryd.results46, go_sem]) rfl ⟨_, _, rfl, hC10, hgr10⟩
    · go_wp2_with fail
      refine (HI _).mono ?_
      rintro e w9 ⟨rfl, hq⟩
      have hq' := hq.symm
      subst hq'
      clear hq
      go_wp2
      exact bodyPost_ret (v := .tuple #[.int .i64 (I), .int .i64 (t)]) (by simp [results, Tryd.results46, go_sem]) rfl ⟨_, _, rfl, hC8, hgr8⟩
  · have hal : ∀ o, Below w2.heap.size w2 (w2.alloc o) := fun o => (Below.refl _ _).alloc (Nat.le_refl _) o
    have hcl2 := hC2.lt
    go_wp2_with fail
    refine (l1Below_any base c ao n cap 3 (by omega) (by omega) _ (hC2.next (hal _))).mono ?_
    rintro e w4 ⟨y, rfl, hy, hC4, hg4⟩
    have hb4 := hg4.block w2.heap.size (by simp) (by simp; omega)
    rw [Go.Deep.blk_alloc_new] at hb4
    have hgr4 : w.grownBy w4 (some c) := (hgr2.trans (gr_of_b (hal _))).trans hg4
    have hO4 := (hO2.next (hal _)).grown hg4 hcB
    have hy' : y < 3 := by omega
    obtain ⟨I, hE⟩ : ∃ I : Int, w4.cell? ⟨w2.heap.size, y, none⟩ = some (.int .i64 I) := by
      have hc : y = 0 ∨ y = 1 ∨ y = 2 := by omega
      rcases hc with rfl | rfl | rfl <;> simp only [World.cell?, hb4] <;> exact ⟨_, rfl⟩
    have hy9 : (y : Int) < 3 := by omega
    clear hb4 hg4 hO2 hC2
    go_wp2_with fail
    refine (l1Below_any base c ao n cap 5 (by omega) (by omega) _ hC4).mono ?_
    rintro e w8 ⟨t, rfl, ht, hC8, hg8⟩
    have hO8 := (hO4).grown hg8 hcB
    have hgr8 := (hgr4).trans hg8
    rcases Bool.eq_false_or_eq_true (inB (I) 1 (k : Int)) with hin | hin
    · have hl : 1 ≤ (I) ∧ (I) ≤ (k : Int) := by simpa [inB] using hin
      have HI : ∀ W, Calls Tryd.prog 35 #[.int .i64 (I), .int .i64 1, .int .i64 (k : Int)] W fun e w' => e = .returned (.bool true) ∧ w' = W := fun W => by rw [← hin]; exact l1In_any _ _ _ _
      have hne : ¬ (I) = 0 := by omega
      go_wp2_with fail
      refine (HI _).mono ?_
      rintro e w9 ⟨rfl, hq⟩
      have hq' := hq.symm
      subst hq'
      clear hq
      go_wp2_with fail
      refine (l1Once_any base c ao n cap 4 (by omega) (by omega) _ hC8).mono ?_
      rintro e w10 ⟨b, rfl, hC10, hg10⟩
      obtain ⟨T, X, hrow, _, _⟩ := (hO8.grown hg10 hcB).lst
      have hgr10 := hgr8.trans hg10
      cases b
      · obtain ⟨j, rfl⟩ : ∃ j : Nat, I = (j : Int) + 1 := ⟨(I - 1).toNat, by omega⟩
        obtain ⟨bb, oo, hlo, c0, c1⟩ := hrow j (by omega)
        subst hlo
        have e1 : IntKind.i64.wrap ((j : Int) + 1 - 1) = (j : Int) := by rw [IntKind.wrap_i64]; omega
        have e2 : (j : Int) + 1 - 1 = (j : Int) := by omega
        have e3 : (j : Int) < (k : Int) := by omega
        go_wp2
        exact bodyPost_ret (v := .tuple #[.int .i64 ((j : Int) + 1), .int .i64 (T j)]) (by simp [results, Tryd.results46, go_sem]) rfl ⟨_, _, rfl, hC10, hgr10⟩
      · go_wp2
        exact bodyPost_ret (v := .tuple #[.int .i64 (I), .int .i64 (t)]) (by simp [results, Tryd.results46, go_sem]) rfl ⟨_, _, rfl, hC10, hgr10⟩
    have HI : ∀ W, Calls Tryd.prog 35 #[.int .i64 (I), .int .i64 1, .int .i64 (k : Int)] W fun e w' => e = .returned (.bool false) ∧ w' = W := fun W => by rw [← hin]; exact l1In_any _ _ _ _
    by_cases hz : (I) = 0
    · subst hz
      go_wp2_with fail
      refine (HI _).mono ?_
      rintro e w9 ⟨rfl, hq⟩
      have hq' := hq.symm
      subst hq'
      clear hq
      go_wp2_with fail
      refine (l1Once_any base c ao n cap 4 (by omega) (by omega) _ hC8).mono ?_
      rintro e w10 ⟨b, rfl, hC10, hg10⟩
      have hgr10 := hgr8.trans hg10
      cases b
      · go_wp2
        exact bodyPost_ret (v := .tuple #[.int .i64 (0), .int .i64 (0)]) (by simp [results, Tryd.results46, go_sem]) rfl ⟨_, _, rfl, hC10, hgr10⟩
      · go_wp2
        exact bodyPost_ret (v := .tuple #[.int .i64 (0), .int .i64 (t)]) (by simp [results, Tryd.results46, go_sem]) rfl ⟨_, _, rfl, hC10, hgr10⟩
    · go_wp2_with fail
      refine (HI _).mono ?_
      rintro e w9 ⟨rfl, hq⟩
      have hq' := hq.symm
      subst hq'
      clear hq
      go_wp2
      exact bodyPost_ret (v := .tuple #[.int .i64 (I), .int .i64 (t)]) (by simp [results, Tryd.results46, go_sem]) rfl ⟨_, _, rfl, hC8, hgr8⟩
  -- WALKEND

end Go.Proofs.YtcmeppjfjledfacDoor

/-
  The document's draws DrawFits and DrawMerge.
-/
set_option linter.unusedVariables false
set_option linter.unusedSimpArgs false
namespace Go.Proofs.YtcmeppjfjledfacDoor
open Go.RowKit
attribute [local go_sem ↓] Go.wp_at_zero Go.wp_at_succ

theorem l1Max_some (a b : Int) (w : World) : Calls Tryd.prog 49 #[.int .i64 a, .int .i64 b] w fun e w' => ∃ m : Int, e = .returned (.int .i64 m) ∧ w' = w := by
  by_cases h : b < a
  · go_enter Tryd.func49, Tryd.ntmps49
    go_wp2
    go_ret
    first | exact ⟨_, rfl, rfl⟩ | exact ⟨⟨_, rfl⟩, rfl⟩ | rfl | exact ⟨_, rfl⟩
  · go_enter Tryd.func49, Tryd.ntmps49
    go_wp2
    go_ret
    first | exact ⟨_, rfl, rfl⟩ | exact ⟨⟨_, rfl⟩, rfl⟩ | rfl | exact ⟨_, rfl⟩

set_option maxHeartbeats 1000000 in
theorem drawFits_any (ao : Option Addr) (n cap : Nat) (hn : n ≤ 4096) (w : World) (hr : ByRow w w.heap.size ao n) :
    Calls Tryd.prog 20 #[.slice ao n cap] w fun e w' => ∃ (lo : Option Addr) (k lc : Nat) (i t : Int), e = .returned (.tuple #[.slice lo k lc, .int .i64 i, .int .i64 t]) ∧ k ≤ 201 ∧ NLst w' lo k lc ∧ Below w.heap.size w w' := by
  go_enter Tryd.func20, Tryd.ntmps20
  go_wp2_with fail
  refine (l1New_any ao n cap hn _ hr).mono ?_
  rintro e w1 ⟨c, rfl, hC1, hb1⟩
  have hcg := hC1.ge
  have hcl1 := hC1.lt
  go_wp2_with fail
  refine (l10DrawAny_any _ c ao n cap _ hC1).mono ?_
  rintro e w2 ⟨lo, k, lc, rfl, hk, hO2, hC2, hg2⟩
  have hA2 : Below w.heap.size w w2 := hb1.trans (gr_below hg2 hcg hb1.size)
  go_wp2_with fail
  refine (l10DrawAt_any _ c ao n cap _ lo k lc hk _ hcl1 hO2 hC2).mono ?_
  rintro e w3 ⟨i, t, rfl, hC3, hg3⟩
  have hA3 : Below w.heap.size w w3 := hA2.trans (gr_below hg3 hcg hA2.size)
  have hL3 := (hO2.grown hg3 hcl1).lst
  go_wp2
  exact bodyPost_ret (v := .tuple #[.slice lo k lc, .int .i64 i, .int .i64 t]) (by simp [results, Tryd.results20, go_sem]) rfl ⟨_, _, _, _, _, rfl, hk, hL3, hA3⟩

set_option maxRecDepth 100000 in
set_option maxHeartbeats 2000000 in
theorem drawMerge_any (ao : Option Addr) (n cap : Nat) (hn : n ≤ 4096) (w : World) (hr : ByRow w w.heap.size ao n) :
    Calls Tryd.prog 16 #[.slice ao n cap] w fun e w' => ∃ (lo : Option Addr) (k lc : Nat) (i : Int) (eo : Option Addr) (m ec : Nat), e = .returned (.tuple #[.slice lo k lc, .int .i64 i, .slice eo m ec]) ∧ k ≤ 201 ∧ m ≤ 210 ∧ NLst w' lo k lc ∧ NLst w' eo m ec ∧ Below w.heap.size w w' := by
  go_enter Tryd.func16, Tryd.ntmps16
  go_wp2_with fail
  refine (l1New_any ao n cap hn _ hr).mono ?_
  rintro e w1 ⟨c, rfl, hC1, hb1⟩
  have hcg := hC1.ge
  have hcl1 := hC1.lt
  go_wp2_with fail
  refine (l10DrawAny_any _ c ao n cap _ hC1).mono ?_
  rintro e w2 ⟨lo, k, lc, rfl, hk, hO2, hC2, hg2⟩
  have hA2 : Below w.heap.size w w2 := hb1.trans (gr_below hg2 hcg hb1.size)
  go_wp2_with fail
  refine (l10DrawAt_any _ c ao n cap _ lo k lc hk _ hcl1 hO2 hC2).mono ?_
  rintro e w3 ⟨i, t, rfl, hC3, hg3⟩
  have hA3 : Below w.heap.size w w3 := hA2.trans (gr_below hg3 hcg hA2.size)
  have hO3 := hO2.grown hg3 hcl1
  have hcl3 := hC3.lt
  clear hO2 hC2 hg2 hg3 hA2
  have hal : ∀ o, Below w3.heap.size w3 (w3.alloc o) := fun o => (Below.refl _ _).alloc (Nat.le_refl _) o
  obtain ⟨T0, X0, hX0, hown0, g, rfl⟩ := hO3
  have hLst3 : NLst w3 (some ⟨g, 0, none⟩) k lc := NOwnE.lst ⟨T0, X0, hX0, hown0, g, rfl⟩
  have hgc : w1.heap.size ≤ g := (nhas_of_owns hown0 rfl).2
  have hgl : g < w3.heap.size := (nhas_of_owns hown0 rfl).1.lt
  have hrow0 := nhas_row (nhas_of_owns hown0 rfl).1
  have hKL : ∀ {W : World}, w3.grownBy W (some c) → NLst W (some ⟨g, 0, none⟩) k lc := fun {W} hW => (NOwnE.grown (base := w1.heap.size) ⟨T0, X0, hX0, hown0, g, rfl⟩ hW hcl1).lst
  have hkc2 : k ≤ lc := by obtain ⟨_, _, _, _, h⟩ := hLst3; exact h
  rcases Bool.eq_false_or_eq_true (inB i 0 (k : Int)) with hin | hin
  · have hl : 0 ≤ i ∧ i ≤ (k : Int) := by simpa [inB] using hin
    have HI : ∀ W, Calls Tryd.prog 35 #[.int .i64 i, .int .i64 0, .int .i64 (k : Int)] W fun e w' => e = .returned (.bool true) ∧ w' = W := fun W => by rw [← hin]; exact l1In_any _ _ _ _
    obtain ⟨j, rfl⟩ : ∃ j : Nat, i = j := ⟨i.toNat, by omega⟩
    go_wp2_with fail
    refine (HI _).mono ?_
    rintro e w9 ⟨rfl, hq⟩
    have hq' := hq.symm
    subst hq'
    clear hq
    have hjk : j ≤ k := by omega
    have e1 : IntKind.i64.wrap ((k : Int) - (j : Int)) = (k : Int) - (j : Int) := by rw [IntKind.wrap_i64]; omega
    have e2 : IntKind.i64.wrap ((k : Int) - (j : Int) + 1) = (k : Int) - (j : Int) + 1 := by rw [IntKind.wrap_i64]; omega
    go_wp2_with fail
    refine (l1Below_any _ c ao n cap ((k : Int) - (j : Int) + 1) (by omega) (by omega) _ (hC3.next (hal _))).mono ?_
    rintro e w4 ⟨y, rfl, hy, hC4, hg4⟩
    have hjy : IntKind.i64.wrap ((j : Int) + (y : Int)) = (j : Int) + (y : Int) := by rw [IntKind.wrap_i64]; omega
    have f1 : (j : Int) + (y : Int) ≤ (lc : Int) := by omega
    have f2 : (j : Int) ≤ (j : Int) + (y : Int) := by omega
    have f3 : ((j : Int) + (y : Int)).toNat = j + y := by omega
    have hK4 : w3.grownBy w4 (some c) := (gr_of_b (hal _)).trans hg4
    have hsrc : NRow w4 (if lc = j then some ⟨g, 0, none⟩ else some ⟨g, j * 2, none⟩) y (fun x => T0 (j + x)) (fun x => X0 (j + x)) := by
      by_cases hlj : lc = j
      · exact fun x hx => by omega
      · rw [if_neg hlj]
        have hN : NHas w4 g k T0 X0 := (nhas_of_owns hown0 rfl).1.grown hK4 (by simp; omega)
        have := ((nhas_row hN).drop hjk).less (show y ≤ k - j by omega)
        simpa using this
    have hO4 : NOwnE w4 w3.heap.size (some ⟨w3.heap.size, 0, none⟩) 0 0 := (NOwnE.new w3).grown hg4 hcl3
    have hown4 : w4.ownsRow w3.heap.size 47 2 (.slice (some ⟨w3.heap.size, 0, none⟩) 0 0) 0 [] := owns_grown (empty_ownsN w3) hg4 hcl3
    have hz4 := hK4.size
    clear hO4 hg4
    go_wp2_with (at_builtin; refine wpList_appN rfl _ _ rfl w3.heap.size w3.heap.size 0 0 [] rfl hown4 (if lc = j then some ⟨g, 0, none⟩ else some ⟨g, j * 2, none⟩) y (lc - j) (fun x => T0 (j + x)) (fun x => X0 (j + x)) rfl hsrc (by omega) hz4 ?_; intro ge ec w5 hown5 hb5; generalize (if lc = j then some (⟨g, 0, none⟩ : Addr) else some ⟨g, j * 2, none⟩) = sa)
    simp only [Nat.zero_add, List.nil_append] at hown5
    have hm0 : y ≤ 201 := by omega
    have hO5 : NOwnE w5 w3.heap.size (some ⟨ge, 0, none⟩) y ec := ⟨_, _, fun x hx => hX0 _ (by omega), hown5, ge, rfl⟩
    have hC5 := hC4.keep hb5 hcl3
    have hKeep5 : w3.grownBy w5 (some c) := gr_then hK4 hb5 (Nat.le_refl _)
    have hLst5 := hKL hKeep5
    clear hown5 hb5 hown4 hsrc hC4
    have hL5 := hLst5
    go_wp2_with fail
    refine (l1Below_any _ c ao n cap 3 (by omega) (by omega) _ hC5).mono ?_
    rintro e w6 ⟨y6, rfl, hy6, hC6, hg6⟩
    have hO6 := hO5.grown hg6 hcl3
    have hK6 := hKeep5.trans hg6
    clear hC5 hO5 hKeep5 hg6
    obtain ⟨T6, X6, hX6, hown6, g6, hge6⟩ := hO6
    have hge6' : ge = g6 := by simpa using hge6
    subst hge6'
    clear hge6
    have hrow6 := nhas_row (nhas_of_owns hown6 rfl).1
    go_wp2_with fail
    have hLT := l10Last_any (some ⟨ge, 0, none⟩) y ec T6 X6 (by omega) w6 hrow6
    generalize lastT y T6 = lt6 at hLT
    refine hLT.mono ?_
    rintro e w7 ⟨rfl, hq⟩
    have hq' := hq.symm
    subst hq'
    clear hq
    have hO6 : NOwnE w6 w3.heap.size (some ⟨ge, 0, none⟩) y ec := ⟨T6, X6, hX6, hown6, ge, rfl⟩
    clear hown6 hrow6 hX6
    go_wp2_with fail
    refine (l1Below_any _ c ao n cap 4 (by omega) (by omega) _ hC6).mono ?_
    rintro e w8 ⟨y8, rfl, hy8, hC8, hg8⟩
    have hO8 := hO6.grown hg8 hcl3
    have hK8 := hK6.trans hg8
    clear hC6 hO6 hK6 hg8
    go_wp2
    go_loopw [9, 10, 11] (fun a t q wr => ∃ (eo : Option Addr) (m ec r : Nat) (tt : Int), a = .slice eo m ec ∧ t = .int .i64 tt ∧ q = .int .i64 r ∧ r ≤ 3 ∧ r + m ≤ 204 ∧ NOwnE wr w3.heap.size eo m ec ∧ CurAt wr w.heap.size c ao n cap ∧ w3.grownBy wr (some c)) (fun _ _ q _ => (intOf q).toNat)
    case atStart => exact ⟨_, y, ec, y8, _, rfl, rfl, rfl, by omega, by omega, hO8, hC8, hK8⟩
    case round =>
      obtain ⟨eo, m, ec, r, tt, rfl, rfl, rfl, hr3, hrm, hO, hCr, hgr⟩ := hrel
      have hAr : Below w.heap.size w wr := hA3.trans (gr_below hgr hcg hA3.size)
      by_cases hz : 0 < r
      rotate_left
      · obtain rfl : r = 0 := by omega
        have hLl : NLst wr (some ⟨g, 0, none⟩) k lc := hKL hgr
        go_wp2
        exact bodyPost_ret (v := .tuple #[.slice (some ⟨g, 0, none⟩) k lc, .int .i64 (j : Int), .slice eo m ec]) (by simp [results, Tryd.results16, go_sem]) rfl ⟨_, _, _, _, _, _, _, rfl, hk, by omega, hLl, hO.lst, hAr⟩
      have hz' : (0 : Int) < (r : Int) := by omega
      have hrw : IntKind.i64.wrap ((r : Int) - 1) = ((r - 1 : Nat) : Int) := by rw [IntKind.wrap_i64]; omega
      go_wp2_with fail
      refine (l1Max_some 1 tt _).mono ?_
      rintro e wm ⟨mx, rfl, hq⟩
      have hq' := hq.symm
      subst hq'
      clear hq
      go_wp2_with fail
      refine (l10DrawText_any _ c ao n cap _ hCr).mono ?_
      rintro e wt ⟨s3, rfl, hs3, hCt, hgt⟩
      obtain ⟨T, X, hX9, hown9, g9, rfl⟩ := hO.grown hgt hcl3
      have hgr3 := hgr.trans hgt
      have hzt := hgr3.size
      clear hO hCr hgt
      go_wp2_with (at_builtin; refine wpList_appN rfl _ _ rfl w3.heap.size g9 m ec (nCells T X m) rfl (owns_alloc hown9 _) (some ⟨wt.heap.size, 0, none⟩) 1 1 (fun _ => _) (fun _ => s3) rfl (new_entry wt _ _) (by omega) (by simp; omega) ?_; intro g' cap' wu hown' hbu)
      have hbtu : Below w3.heap.size wt wu := ((Below.refl w3.heap.size wt).alloc hzt _).trans hbu
      have hCu := hCt.keep hbtu hcl3
      have hOu := NOwnE.add hX9 hs3 hown'
      have hgru := gr_then hgr3 hbtu (Nat.le_refl _)
      clear hown9 hown' hCt hbu
      go_wp2_with fail
      refine (l1Below_any _ c ao n cap 2 (by omega) (by omega) _ hCu).mono ?_
      rintro e wv ⟨yv, rfl, hyv, hCv, hgv⟩
      have hOv := hOu.grown hgv hcl3
      have hgrv := hgru.trans hgv
      clear hOu hCu hgv
      go_wp2
      go_roundw
      case rel => exact ⟨_, m + 1, _, r - 1, _, rfl, rfl, by go_num, by omega, by omega, hOv, hCv, hgrv⟩
      case measure => simp [intOf]; omega
  · have HI : ∀ W, Calls Tryd.prog 35 #[.int .i64 i, .int .i64 0, .int .i64 (k : Int)] W fun e w' => e = .returned (.bool false) ∧ w' = W := fun W => by rw [← hin]; exact l1In_any _ _ _ _
    go_wp2_with fail
    refine (HI _).mono ?_
    rintro e w9 ⟨rfl, hq⟩
    have hq' := hq.symm
    subst hq'
    clear hq
    have hm0 : (0 : Nat) ≤ 201 := by omega
    have hO5 : NOwnE (w3.alloc (.cells #[] 47)) w3.heap.size (some ⟨w3.heap.size, 0, none⟩) 0 0 := NOwnE.new w3
    have hC5 := hC3.next (hal (.cells #[] 47))
    have hKeep5 : w3.grownBy (w3.alloc (.cells #[] 47)) (some c) := gr_of_b (hal _)
    have hLst5 := hKL hKeep5
    generalize (w3.alloc (.cells #[] 47)) = w5 at hO5 hC5 hKeep5 hLst5 ⊢
    have hL5 := hLst5
    go_wp2_with fail
    refine (l1Below_any _ c ao n cap 3 (by omega) (by omega) _ hC5).mono ?_
    rintro e w6 ⟨y6, rfl, hy6, hC6, hg6⟩
    have hO6 := hO5.grown hg6 hcl3
    have hK6 := hKeep5.trans hg6
    clear hC5 hO5 hKeep5 hg6
    obtain ⟨T6, X6, hX6, hown6, g6, hge6⟩ := hO6
    have hge6' : w3.heap.size = g6 := by simpa using hge6
    subst hge6'
    clear hge6
    have hrow6 := nhas_row (nhas_of_owns hown6 rfl).1
    go_wp2_with fail
    have hLT := l10Last_any (some ⟨w3.heap.size, 0, none⟩) 0 0 T6 X6 (by omega) w6 hrow6
    generalize lastT 0 T6 = lt6 at hLT
    refine hLT.mono ?_
    rintro e w7 ⟨rfl, hq⟩
    have hq' := hq.symm
    subst hq'
    clear hq
    have hO6 : NOwnE w6 w3.heap.size (some ⟨w3.heap.size, 0, none⟩) 0 0 := ⟨T6, X6, hX6, hown6, w3.heap.size, rfl⟩
    clear hown6 hrow6 hX6
    go_wp2_with fail
    refine (l1Below_any _ c ao n cap 4 (by omega) (by omega) _ hC6).mono ?_
    rintro e w8 ⟨y8, rfl, hy8, hC8, hg8⟩
    have hO8 := hO6.grown hg8 hcl3
    have hK8 := hK6.trans hg8
    clear hC6 hO6 hK6 hg8
    go_wp2
    go_loopw [9, 10, 11] (fun a t q wr => ∃ (eo : Option Addr) (m ec r : Nat) (tt : Int), a = .slice eo m ec ∧ t = .int .i64 tt ∧ q = .int .i64 r ∧ r ≤ 3 ∧ r + m ≤ 204 ∧ NOwnE wr w3.heap.size eo m ec ∧ CurAt wr w.heap.size c ao n cap ∧ w3.grownBy wr (some c)) (fun _ _ q _ => (intOf q).toNat)
    case atStart => exact ⟨_, 0, 0, y8, _, rfl, rfl, rfl, by omega, by omega, hO8, hC8, hK8⟩
    case round =>
      obtain ⟨eo, m, ec, r, tt, rfl, rfl, rfl, hr3, hrm, hO, hCr, hgr⟩ := hrel
      have hAr : Below w.heap.size w wr := hA3.trans (gr_below hgr hcg hA3.size)
      by_cases hz : 0 < r
      rotate_left
      · obtain rfl : r = 0 := by omega
        have hLl : NLst wr (some ⟨g, 0, none⟩) k lc := hKL hgr
        go_wp2
        exact bodyPost_ret (v := .tuple #[.slice (some ⟨g, 0, none⟩) k lc, .int .i64 i, .slice eo m ec]) (by simp [results, Tryd.results16, go_sem]) rfl ⟨_, _, _, _, _, _, _, rfl, hk, by omega, hLl, hO.lst, hAr⟩
      have hz' : (0 : Int) < (r : Int) := by omega
      have hrw : IntKind.i64.wrap ((r : Int) - 1) = ((r - 1 : Nat) : Int) := by rw [IntKind.wrap_i64]; omega
      go_wp2_with fail
      refine (l1Max_some 1 tt _).mono ?_
      rintro e wm ⟨mx, rfl, hq⟩
      have hq' := hq.symm
      subst hq'
      clear hq
      go_wp2_with fail
      refine (l10DrawText_any _ c ao n cap _ hCr).mono ?_
      rintro e wt ⟨s3, rfl, hs3, hCt, hgt⟩
      obtain ⟨T, X, hX9, hown9, g9, rfl⟩ := hO.grown hgt hcl3
      have hgr3 := hgr.trans hgt
      have hzt := hgr3.size
      clear hO hCr hgt
      go_wp2_with (at_builtin; refine wpList_appN rfl _ _ rfl w3.heap.size g9 m ec (nCells T X m) rfl (owns_alloc hown9 _) (some ⟨wt.heap.size, 0, none⟩) 1 1 (fun _ => _) (fun _ => s3) rfl (new_entry wt _ _) (by omega) (by simp; omega) ?_; intro g' cap' wu hown' hbu)
      have hbtu : Below w3.heap.size wt wu := ((Below.refl w3.heap.size wt).alloc hzt _).trans hbu
      have hCu := hCt.keep hbtu hcl3
      have hOu := NOwnE.add hX9 hs3 hown'
      have hgru := gr_then hgr3 hbtu (Nat.le_refl _)
      clear hown9 hown' hCt hbu
      go_wp2_with fail
      refine (l1Below_any _ c ao n cap 2 (by omega) (by omega) _ hCu).mono ?_
      rintro e wv ⟨yv, rfl, hyv, hCv, hgv⟩
      have hOv := hOu.grown hgv hcl3
      have hgrv := hgru.trans hgv
      clear hOu hCu hgv
      go_wp2
      go_roundw
      case rel => exact ⟨_, m + 1, _, r - 1, _, rfl, rfl, by go_num, by omega, by omega, hOv, hCv, hgrv⟩
      case measure => simp [intOf]; omega

end Go.Proofs.YtcmeppjfjledfacDoor

/-
  A list of numbers that is answered, in new memory.
-/
set_option linter.unusedVariables false
set_option linter.unusedSimpArgs false
namespace Go.Proofs.YtcmeppjfjledfacDoor
open Go.RowKit

/-- A list that is answered: of the call's own. -/
def Ans (w w' : World) (e : Ending) (m : Nat) (D : Nat → Int) : Prop := ∃ ao cap, e = .returned (.slice ao m cap) ∧ (0 < m → ∃ g, ao = some ⟨g, 0, none⟩ ∧ w.heap.size ≤ g ∧ IHas w' g m D) ∧ Below w.heap.size w w'

theorem ans_of {w w' : World} {e : Ending} {m m' : Nat} {D : Nat → Int} (h : m = m') (H : Ans w w' e m' D) : Ans w w' e m D := by rw [h]; exact H

end Go.Proofs.YtcmeppjfjledfacDoor

/-
  What the laws over drawn inputs call: their helpers, and the bytes that came in.
-/
set_option linter.unusedVariables false
set_option linter.unusedSimpArgs false
namespace Go.Proofs.YtcmeppjfjledfacDoor
open Go.ChangeShapes Go.WideShapes Go.ChangeAt Go.RowKit Go.Deep Go.Joins
attribute [local go_sem ↓] Go.wp_at_zero Go.wp_at_succ

theorem big_any (ao : Option Addr) (n cap : Nat) (hn : n ≤ 9223372036854775807) (w : World) : Calls Tryd.prog 5 #[.slice ao n cap] w fun e w' => e = .returned (.bool (decide (4096 < n))) ∧ w' = w := by
  by_cases h : 4096 < n
  · have h' : 4096 < (n : Int) := by omega
    go_enter Tryd.func5, Tryd.ntmps5
    go_wp2
    go_ret
    exact ⟨ret_bool (by simp [h]), rfl⟩
  · have h' : ¬ 4096 < (n : Int) := by omega
    go_enter Tryd.func5, Tryd.ntmps5
    go_wp2
    go_ret
    exact ⟨ret_bool (by simp [h]), rfl⟩

set_option maxRecDepth 100000 in
theorem open_bytes {H : Type} {enc : TypeId × Value → H} {w : World} {base : Nat} {spare : Nat → Bool} {held : Bool} {fuel : Nat} {cs : List Value} {x : DataW H × List MemPlace}
    (h : DataW.trod enc Tryd.prog w base spare held fuel 22 cs = some x) :
    ∃ (ao : Option Addr) (n cap : Nat), cs = [.slice ao n cap] ∧ n ≤ maxLen ∧ ByRow w w.heap.size ao n := by
  rcases open_slice Tryd.underlying22 h with ⟨rfl, _⟩ | ⟨a, len, cap, m, n, D, Pl, rfl, hb, hl, hm, hmm, _, hx⟩
  · exact ⟨none, 0, 0, rfl, Nat.zero_le _, fun k hk => by omega⟩
  have hlm : len ≤ m := by rw [hmm]; split <;> omega
  have cells8 : Tryd.prog.cellsOf 5 = 1 := by kernel_rfl
  have each : ∀ i, i < len → ∃ q : Int, w.cell? (a.add i) = some (.int .u8 q) ∧ (Lit.int .u8 q).wf = true := by
    intro i hi
    obtain ⟨cs', h1, h2⟩ := hx i (by omega)
    rw [cells8] at h1
    obtain ⟨_, hlen, hcell⟩ := World.cells?_some h1
    match cs', hlen with
    | [v0], _ =>
      obtain ⟨q0, r0, _, f0⟩ := DataW.trod_int Tryd.underlying5 h2
      have e0 := hcell 0 (by omega)
      rw [add_add] at e0
      simp at r0
      subst r0
      exact ⟨q0, by simpa using e0, f0⟩
  refine ⟨some a, len, cap, rfl, by omega, fun k hk => ?_⟩
  obtain ⟨q, hq, hwf⟩ := each k hk
  obtain ⟨b, o, spot⟩ := a
  have hspot : spot = none := by
    obtain ⟨_, hq0, _⟩ := each 0 (by omega)
    have := World.cell?_spot hq0
    simpa [Addr.add] using this
  subst hspot
  rw [Addr.add_mid] at hq
  have h8 : 0 ≤ q ∧ q ≤ 255 := by
    have h1 : IntKind.min .u8 = 0 := by decide
    have h2 : IntKind.max .u8 = 255 := by decide
    simp only [Lit.wf, h1, h2, Bool.and_eq_true, decide_eq_true_eq] at hwf
    exact hwf
  exact ⟨b, o, q, rfl, lt_of_cell hq, hq, h8.1, h8.2⟩

theorem ByRow.up {w W : World} {ao : Option Addr} {n : Nat} (h : ByRow w w.heap.size ao n) (hb : Below w.heap.size w W) : ByRow W W.heap.size ao n := fun k hk => by
  obtain ⟨b, o, v, e, hlt, hc, hv⟩ := (h.below hb (Nat.le_refl _)) k hk
  exact ⟨b, o, v, e, Nat.lt_of_lt_of_le hlt hb.size, hc, hv⟩
theorem ans_row {W w' : World} {ao : Option Addr} {m : Nat} {D : Nat → Int} (h : 0 < m → ∃ g, ao = some ⟨g, 0, none⟩ ∧ W.heap.size ≤ g ∧ IHas w' g m D) : IRow w' ao m D := fun k hk => by
  obtain ⟨g, e, _, hI⟩ := h (by omega)
  subst e
  exact hI.row k hk

end Go.Proofs.YtcmeppjfjledfacDoor
