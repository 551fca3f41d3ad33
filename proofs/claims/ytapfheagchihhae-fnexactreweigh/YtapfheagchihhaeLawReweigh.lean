/-
  Proved: at every map and every list of arcs the law FnExactReweigh answers true, and its arguments read behind the call as they read before. No condition.
-/
import Derived.Test.YtapfheagchihhaeRwImpl
set_option linter.unusedVariables false
set_option linter.unusedSimpArgs false
namespace Go.Proofs.Ytapfheagchihhae
open Go.ChangeShapes Go.WideShapes Go.ChangeAt Go.RowKit Go.Deep Go.Joins Go.Maps
attribute [local go_sem ↓] Go.wp_at_zero Go.wp_at_succ

/-- What stands in memory behind the two answers: the law's argument in its box, the document's answer, the copy that was handed in, the program's answer. -/
structure St (w : World) (p : Int) (ao : Option Addr) (n cap : Nat) (F T H' : Nat → Int) (p' : Int) (n' : Nat) (ao' : Option Addr) (cap' bW bX b6 bG : Nat) (ao8 : Option Addr) (cap8 bg : Nat) (fg : Nat → Int) (W : World) : Prop where
  hA : Below (w.heap.size + 1) (w.alloc (.cells #[.int .i64 p, .slice ao n cap] 24)) W
  w0 : W.cell? ⟨bW, 0, none⟩ = some (.int .i64 p')
  w1 : W.cell? ⟨bW, 1, none⟩ = some (.slice ao' n' cap')
  x0 : W.cell? ⟨bX, 0, none⟩ = some (.int .i64 p)
  x1 : W.cell? ⟨bX, 1, none⟩ = some (.slice (some ⟨b6, 0, none⟩) n n)
  g0 : W.cell? ⟨bG, 0, none⟩ = some (.int .i64 p')
  g1 : W.cell? ⟨bG, 1, none⟩ = some (.slice ao8 n' cap8)
  row : Row W ao' n' F T H'
  has : 0 < n' → Has W bg n' fg

section
variable {w : World} {p : Int} {ao : Option Addr} {n cap : Nat} {F T H' : Nat → Int} {p' : Int} {n' : Nat} {ao' : Option Addr} {cap' bW bX b6 bG : Nat} {ao8 : Option Addr} {cap8 bg : Nat} {fg : Nat → Int} {W W' : World}
theorem St.next (h : St w p ao n cap F T H' p' n' ao' cap' bW bX b6 bG ao8 cap8 bg fg W) (hb : Below W.heap.size W W') : St w p ao n cap F T H' p' n' ao' cap' bW bX b6 bG ao8 cap8 bg fg W' :=
  ⟨below_next h.hA (by simp) hb, keep_cell hb (Nat.le_refl _) h.w0, keep_cell hb (Nat.le_refl _) h.w1, keep_cell hb (Nat.le_refl _) h.x0, keep_cell hb (Nat.le_refl _) h.x1, keep_cell hb (Nat.le_refl _) h.g0, keep_cell hb (Nat.le_refl _) h.g1,
   h.row.below hb (Nat.le_refl _), fun hp => (h.has hp).below hb (h.has hp).lt⟩
/-- Writes into another block. -/
theorem St.aside (h : St w p ao n cap F T H' p' n' ao' cap' bW bX b6 bG ao8 cap8 bg fg W) {b : Nat} (hg : W.grownBy W' (some b)) (h0 : w.heap.size + 1 ≤ b) (hW : bW < b) (hX : bX ≠ b) (hG : bG ≠ b) (hb : bg ≠ b) (hr : ∀ a, ao' = some a → 0 < n' → a.block < bW) : St w p ao n cap F T H' p' n' ao' cap' bW bX b6 bG ao8 cap8 bg fg W' :=
  ⟨h.hA.trans (grown_below hg h0 (by have := h.hA.size; simp at this; omega)), keep_grown hg (by simp; omega) h.w0, keep_grown hg (by simp; omega) h.w1, keep_grown hg (by simpa using hX) h.x0, keep_grown hg (by simpa using hX) h.x1, keep_grown hg (by simpa using hG) h.g0, keep_grown hg (by simpa using hG) h.g1,
   Row.grown (B := 0) h.row hg (fun a e hp => by have := hr a e hp; omega), fun hp => (h.has hp).grown hg (by simpa using hb)⟩
/-- Writes into the program's answer. -/
theorem St.marked (h : St w p ao n cap F T H' p' n' ao' cap' bW bX b6 bG ao8 cap8 bg fg W) {f : Nat → Int} (hg : W.grownBy W' (some bg)) (hm : 0 < n' → Has W' bg n' f) (h0 : w.heap.size + 1 ≤ bg) (hW : bW < bg) (hX : bX ≠ bg) (hG : bG ≠ bg) (hr : ∀ a, ao' = some a → 0 < n' → a.block < bW) : St w p ao n cap F T H' p' n' ao' cap' bW bX b6 bG ao8 cap8 bg f W' :=
  ⟨h.hA.trans (grown_below hg h0 (by have := h.hA.size; simp at this; omega)), keep_grown hg (by simp; omega) h.w0, keep_grown hg (by simp; omega) h.w1, keep_grown hg (by simpa using hX) h.x0, keep_grown hg (by simpa using hX) h.x1, keep_grown hg (by simpa using hG) h.g0, keep_grown hg (by simpa using hG) h.g1,
   Row.grown (B := 0) h.row hg (fun a e hp => by have := hr a e hp; omega), hm⟩
theorem St.grow (h : St w p ao n cap F T H' p' n' ao' cap' bW bX b6 bG ao8 cap8 bg fg W) (F' T' G' : Nat → Int) (hf : fg = ar F' T' G') (hao : 0 < n' → ao8 = some ⟨bg, 0, none⟩) : Row W ao8 n' F' T' G' := fun k hk => by
  obtain rfl := hao (by omega)
  subst hf
  exact (h.has (by omega)).row k hk
end

theorem row_lt {w : World} {ao : Option Addr} {n : Nat} {F T G : Nat → Int} (h : Row w ao n F T G) : ∀ a, ao = some a → 0 < n → a.block < w.heap.size := fun a e hp => by
  obtain ⟨b, o, e', c0, _⟩ := h 0 hp
  rw [e] at e'; simp at e'; subst e'
  exact lt_of_cell c0

theorem res_ex (r : Option (Nat → Int)) (p : Int) (n : Nat) : ∃ p' n' H ok, IsRes r p n p' n' H ok ∧ n' ≤ n := by
  cases r with
  | none => exact ⟨0, 0, fun _ => 0, false, Or.inr ⟨rfl, rfl, rfl, rfl⟩, Nat.zero_le _⟩
  | some H => exact ⟨p, n, H, true, Or.inl ⟨rfl, rfl, rfl, rfl⟩, Nat.le_refl _⟩

set_option maxHeartbeats 8000000 in
theorem lawReweigh_walk (p : Int) (ao : Option Addr) (n cap : Nat) (F T G : Nat → Int) (ao2 : Option Addr) (m cap2 : Nat) (A B C : Nat → Int) (hwf2 : WfTo A B m) (hn : n ≤ maxLen) (hm : m ≤ maxLen) (w : World) (hr : Row w ao n F T G) (hr2 : Row w ao2 m A B C) :
    Calls Try.prog 5 #[.agg #[.int .i64 p, .slice ao n cap], .slice ao2 m cap2] w fun e w' => e = .returned (.bool true) ∧ Below w.heap.size w w' := by
  unfold maxLen at hn hm
  by_cases hbig : 1048576 < n
  · go_enter Try.func5, Try.ntmps5
    go_wp2_with (go_at_call 6; refine (szGraph_out p ao n cap 1048576 (by omega) (by omega) (by omega) (by omega) _).mono ?_; rintro e w1 ⟨rfl, hb1⟩)
    go_ret
    exact ⟨rfl, unbox hb1 (by simp)⟩
  have hn' : n ≤ 1048576 := by omega
  by_cases hbig2 : 1048576 - (n : Int) < m
  · go_enter Try.func5, Try.ntmps5
    go_wp2_with (first | (go_at_call 6; refine (szGraph_in p ao n cap 1048576 (by omega) (by omega) _).mono ?_; rintro e w1 ⟨rfl, hb1⟩) | (go_at_call 13; refine (szArcS_out ao2 m cap2 (1048576 - n) (by omega) (by omega) (by omega) (by omega) _).mono ?_; rintro e w2 ⟨rfl, rfl⟩))
    go_ret
    exact ⟨rfl, unbox hb1 (by simp)⟩
  have hm' : m ≤ 1048576 := by omega
  obtain ⟨p', n', H', ok, hres, hn1⟩ := res_ex (resOf p n F T G m A B C) p n
  have HRES : Hid (IsRes (resOf p n F T G m A B C) p n p' n' H' ok) := hres
  clear hres
  go_enter Try.func5, Try.ntmps5
  go_wp2_with (first
    | (go_at_call 6; refine (szGraph_in p ao n cap 1048576 (by omega) (by omega) _).mono ?_; rintro e w1 ⟨rfl, hb1⟩; have hA := boxed hb1; obtain ⟨x0, x1, xs⟩ := box2 hA)
    | (go_at_call 13; refine (szArcS_in ao2 m cap2 (1048576 - n) (by omega) (by omega) _).mono ?_; rintro e w2 ⟨rfl, rfl⟩)
    | (go_at_call 8; refine (toGraph_any p ao n cap F T G hn' _ ((hr.alloc _).below hA (by simp))).mono ?_; rintro e w3 ⟨b3, rfl, hb3', hown3, hb3⟩; replace hA := below_next hA (by simp) hb3; clear x0 x1 xs; obtain ⟨x0, x1, xs⟩ := box2 hA)
    | (go_at_call 15; refine (toArcS_any ao2 m cap2 A B C hm' _ ((hr2.alloc _).below hA (by simp))).mono ?_; rintro e w4 ⟨rfl, hown4, hb4⟩; replace hA := below_next hA (by simp) hb4; clear x0 x1 xs; obtain ⟨x0, x1, xs⟩ := box2 hA)
    | (go_at_call 14; refine (specReweigh_any p _ n n F T G _ m m A B C hn' hm' _ (hown3.row.below hb4 (Nat.le_refl _)) hown4.row p' n' H' ok HRES.out).mono ?_; rintro e w5 ⟨ao', cap', rfl, hrow5, hb5⟩; replace hA := below_next hA (by simp) hb5; clear x0 x1 xs; obtain ⟨x0, x1, xs⟩ := box2 hA))
  have hlt5 := row_lt hrow5
  have hA5 := hA.alloc xs (.cells #[.int .i64 p', .slice ao' n' cap'] 29)
  have hxs5 := xs
  have hrw5 := hrow5.alloc (.cells #[.int .i64 p', .slice ao' n' cap'] 29)
  clear hA x0 x1 xs hown3 hown4 hb1 hb3 hb4 hb5 hb3' hrow5
  refine (toGraph_any p ao n cap F T G hn' _ ((hr.alloc _).below hA5 (by simp))).mono ?_
  rintro e w6 ⟨b6, rfl, hb6', hown6, hb6⟩
  simp only [World.size_alloc] at hb6'
  have hA6 := below_next hA5 (by simp) hb6
  have v0 := keep_cell hb6 (Nat.le_refl _) (b := w5.heap.size) (o := 0) (by simp [go_sem]; rfl)
  have v1 := keep_cell hb6 (Nat.le_refl _) (b := w5.heap.size) (o := 1) (by simp [go_sem]; rfl)
  have hrw6 := hrw5.below hb6 (Nat.le_refl _)
  have hl6 := World.rowIs.lt hown6
  go_wp2_with fail
  have hA6' := hA6.alloc (o := .cells #[.int .i64 p, .slice (some ⟨b6, 0, none⟩) n n] 29) (by omega)
  refine (toArcS_any ao2 m cap2 A B C hm' _ ((hr2.alloc _).below hA6' (by simp))).mono ?_
  rintro e w7 ⟨rfl, hown7, hb7⟩
  replace v0 := keep_cell (unbox hb7 (by simp)) (Nat.le_refl _) v0
  replace v1 := keep_cell (unbox hb7 (by simp)) (Nat.le_refl _) v1
  have hrw7 := hrw6.below (unbox hb7 (by simp)) (Nat.le_refl _)
  have hA7 := below_next hA6' (by simp) hb7
  have u0 := keep_cell hb7 (Nat.le_refl _) (b := w6.heap.size) (o := 0) (by simp [go_sem]; rfl)
  have u1 := keep_cell hb7 (Nat.le_refl _) (b := w6.heap.size) (o := 1) (by simp [go_sem]; rfl)
  simp only [World.size_alloc] at hown7
  have hl7 := World.rowIs.lt hown7
  have hrx := (hown6.row.alloc (.cells #[.int .i64 p, .slice (some ⟨b6, 0, none⟩) n n] 29)).below hb7 (Nat.le_refl _)
  go_wp2_with fail
  refine (implReweigh_any p _ n n F T G _ m m A B C hn' hm' hwf2 _ hrx hown7.row p' n' H' ok HRES.out).mono ?_
  rintro e w8 ⟨ao8, cap8, rfl, hown8, hb8⟩
  replace v0 := keep_cell hb8 (Nat.le_refl _) v0
  replace v1 := keep_cell hb8 (Nat.le_refl _) v1
  replace u0 := keep_cell hb8 (Nat.le_refl _) u0
  replace u1 := keep_cell hb8 (Nat.le_refl _) u1
  have lW := lt_of_cell v0
  have lX := lt_of_cell u0
  have hrw8 := hrw7.below hb8 (Nat.le_refl _)
  have hA8 := below_next hA7 (by simp) hb8
  have HX8 : Has w8 b6 n (ar F T G) := (Has.of_own (World.rowIs.of_block hown6 (Go.Deep.blk_alloc_lt _ _ _ hl6))).below (hb7.trans (hb8.mono hb7.size)) (by simp; omega)
  have HY8 : Has w8 (w6.heap.size + 1) m (ar A B C) := (Has.of_own hown7).below hb8 hl7
  have hs8 := hb8.size
  obtain ⟨bg, hao8, hbg1, hbg2, hhas8⟩ : ∃ bg, (0 < n' → ao8 = some ⟨bg, 0, none⟩) ∧ w6.heap.size + 1 < bg ∧ bg ≠ w8.heap.size ∧ (0 < n' → Has w8 bg n' (ar F T H')) := by
    by_cases hp : 0 < n'
    · obtain ⟨bg, e, hge, hhas⟩ := hown8 0 hp
      have := hhas.lt
      exact ⟨bg, fun _ => e, by omega, by omega, fun _ => hhas⟩
    · exact ⟨w8.heap.size + 1, fun h => absurd h hp, by omega, by omega, fun h => absurd h hp⟩
  have hbe : Below w8.heap.size w8 (w8.alloc (.cells #[.int .i64 p', .slice ao8 n' cap8] 29)) := (Below.refl _ _).alloc (Nat.le_refl _) _
  have hS : St w p ao n cap F T H' p' n' ao' cap' w5.heap.size w6.heap.size b6 w8.heap.size ao8 cap8 bg (ar F T H') (w8.alloc (.cells #[.int .i64 p', .slice ao8 n' cap8] 29)) :=
    ⟨below_next hA8 (by simp) hbe, keep_cell hbe (Nat.le_refl _) v0, keep_cell hbe (Nat.le_refl _) v1, keep_cell hbe (Nat.le_refl _) u0, keep_cell hbe (Nat.le_refl _) u1, by simp [go_sem], by simp [go_sem], hrw8.below hbe (Nat.le_refl _), fun hp => (hhas8 hp).below hbe (hhas8 hp).lt⟩
  have HX := HX8.below hbe HX8.lt
  have HY := HY8.below hbe HY8.lt
  have hn2 : n' ≤ 1048576 := by omega
  go_wp2_with fail
  clear hown6 hown7 hown8 hb6 hb7 hb8 hA5 hA6 hA6' hA7 hA8 hrw5 hrw6 hrw7 hrw8 hrx HX8 HY8 hhas8 hbe v0 v1 u0 u1
  refine (eqGraph_same p' ao8 ao' n' cap8 cap' F T H' hn2 _ (hS.grow F T H' rfl hao8) hS.row).mono ?_
  rintro e w9 ⟨rfl, hb9⟩
  replace hS := hS.next hb9
  replace HX := HX.below hb9 HX.lt
  replace HY := HY.below hb9 HY.lt
  clear hb9
  obtain ⟨z0, z1, z2⟩ := box2 hS.hA
  have y0 := hS.x0
  have y1 := hS.x1
  go_wp2_with fail
  have hSd := hS.next (Below.refl _ w9).drew
  have HXd := HX.below (Below.refl _ w9).drew HX.lt
  have HYd := HY.below (Below.refl _ w9).drew HY.lt
  clear hS HX HY
  go_region_held3 (fun w' => w'.cell? ⟨w6.heap.size, 0, none⟩ = some (.int .i64 p) ∧ w'.cell? ⟨w6.heap.size, 1, none⟩ = some (.slice (some ⟨b6, 0, none⟩) n n) ∧ w'.cell? ⟨w.heap.size, 0, none⟩ = some (.int .i64 p) ∧ w'.cell? ⟨w.heap.size, 1, none⟩ = some (.slice ao n cap))
    (first | (go_split_ands; refine ⟨?_, ?_, ?_, ?_⟩ <;> exact keep_cell ‹_› (Nat.le_refl _) (by assumption)) | go_keep)
    (first | (go_at_call 8; refine (toGraph_any p ao n cap F T G hn' _ ((hr.alloc _).below hSd.hA (by simp))).mono ?_; rintro e w10 ⟨b10, rfl, hb10', hown10, hb10⟩) | (go_at_call 10; refine (eqGraph_same p _ _ n n n F T G hn' _ (HXd.below hb10 HXd.lt).row hown10.row).mono ?_; rintro e w11 ⟨rfl, hb11⟩))
  have hS := (hSd.next hb10).next hb11
  have HX := (HXd.below hb10 HXd.lt).below hb11 (HXd.below hb10 HXd.lt).lt
  have HY := (HYd.below hb10 HYd.lt).below hb11 (HYd.below hb10 HYd.lt).lt
  clear hSd HXd HYd hb10 hb10' hb11 hown10 z0 z1 z2 y0 y1
  go_wp2_with fail
  refine (toArcS_any ao2 m cap2 A B C hm' _ ((hr2.alloc _).below hS.hA (by simp))).mono ?_
  rintro e w12 ⟨rfl, hown12, hb12⟩
  replace hS := hS.next hb12
  replace HX := HX.below hb12 HX.lt
  replace HY := HY.below hb12 HY.lt
  go_wp2_with fail
  refine (eqArcS_same _ _ m m m A B C hm' _ HY.row hown12.row).mono ?_
  rintro e w13 ⟨rfl, hb13⟩
  replace hS := hS.next hb13
  replace HX := HX.below hb13 HX.lt
  replace HY := HY.below hb13 HY.lt
  clear hb12 hb13 hown12
  have y0 := hS.x0
  have y1 := hS.x1
  go_wp2_with fail
  refine (markGraph_any p b6 n n (ar F T G) 1 (by omega) (by omega) hn' _ (fun _ => HX) _ (fun _ => rfl)).mono ?_
  rintro e w14 ⟨rfl, hm14, hg14⟩
  replace hS := hS.aside hg14 (by omega) (by omega) (by omega) (by omega) (by omega) hlt5
  replace HY := HY.grown hg14 (by simp; omega)
  clear HX hm14 hg14 y0 y1
  go_wp2_with fail
  refine (markArcS_any (w6.heap.size + 1) m m (ar A B C) (1 + 3 * n) (by omega) (by omega) hm' _ (fun _ => HY) _ (fun _ => rfl)).mono ?_
  rintro e w15 ⟨rfl, hm15, hg15⟩
  replace hS := hS.aside hg15 (by omega) (by omega) (by omega) (by omega) (by omega) hlt5
  clear HY hm15 hg15
  have c0 := hS.w0
  have c1 := hS.w1
  have c2 := hS.g0
  have c3 := hS.g1
  go_wp2_with fail
  refine (eqGraph_same p' ao8 ao' n' cap8 cap' F T H' hn2 _ (hS.grow F T H' rfl hao8) hS.row).mono ?_
  rintro e w16 ⟨rfl, hb16⟩
  replace hS := hS.next hb16
  clear hb16 c0 c1 c2 c3
  have c2 := hS.g0
  have c3 := hS.g1
  go_wp2_with fail
  refine (markGraph_any p' bg n' cap8 (ar F T H') 1 (by omega) (by omega) hn2 _ hS.has ao8 hao8).mono ?_
  rintro e w17 ⟨rfl, hm17, hg17⟩
  have hS := hS.marked hg17 hm17 (by omega) (by omega) (by omega) (by omega) hlt5
  clear c2 c3 hm17 hg17
  have c2 := hS.g0
  have c3 := hS.g1
  go_wp2_with fail
  refine (heldGraph_any p' bg n' cap8 1 (by omega) (by omega) hn2 _ hS.has ao8 hao8).mono ?_
  rintro e w18 ⟨rfl, hb18⟩
  replace hS := hS.next hb18
  clear c2 c3 hb18
  obtain ⟨z0, z1, z2⟩ := box2 hS.hA
  go_wp2_with fail
  refine (toGraph_any p ao n cap F T G hn' _ ((hr.alloc _).below hS.hA (by simp))).mono ?_
  rintro e w19 ⟨b19, rfl, hb19', hown19, hb19⟩
  replace hS := hS.next hb19
  clear z0 z1 z2
  go_wp2_with fail
  refine (toArcS_any ao2 m cap2 A B C hm' _ ((hr2.alloc _).below hS.hA (by simp))).mono ?_
  rintro e w20 ⟨rfl, hown20, hb20⟩
  replace hS := hS.next hb20
  have hrow20 := hown19.row.below hb20 (Nat.le_refl _)
  go_wp2_with fail
  refine (implReweigh_any p _ n n F T G _ m m A B C hn' hm' hwf2 _ hrow20 hown20.row p' n' H' ok HRES.out).mono ?_
  rintro e w21 ⟨ao21, cap21, rfl, hown21, hb21⟩
  replace hS := hS.next hb21
  have hrow21 := hown21.row.alloc (.cells #[.int .i64 p', .slice ao21 n' cap21] 29)
  clear hown19 hown20 hown21 hb19 hb19' hb20 hb21 hrow20
  have c0 := hS.w0
  have c1 := hS.w1
  have lW' := lt_of_cell c0
  go_wp2_with fail
  have hS := hS.next ((Below.refl _ _).alloc (Nat.le_refl _) (.cells #[.int .i64 p', .slice ao21 n' cap21] 29))
  refine (eqGraph_same p' ao21 ao' n' cap21 cap' F T H' hn2 _ hrow21 hS.row).mono ?_
  rintro e w22 ⟨rfl, hb22⟩
  replace hS := hS.next hb22
  clear hb22 c0 c1 hrow21
  have c2 := hS.g0
  have c3 := hS.g1
  go_wp2_with fail
  refine (heldGraph_any p' bg n' cap8 1 (by omega) (by omega) hn2 _ hS.has ao8 hao8).mono ?_
  rintro e w23 ⟨rfl, hb23⟩
  replace hS := hS.next hb23
  go_wp2
  go_ret
  exact ⟨rfl, unbox hS.hA (by omega)⟩

/-- A list of arcs that came in, and that its numbers fit their kind. -/
theorem open_arcs_wf {H : Type} {enc : TypeId × Value → H} {w : World} {base : Nat} {spare : Nat → Bool} {held : Bool} {fuel : Nat} {cs : List Value} {x : DataW H × List MemPlace}
    (h : DataW.trod enc Try.prog w base spare held fuel 22 cs = some x) :
    ∃ (ao : Option Addr) (n cap : Nat) (F T G : Nat → Int), cs = [.slice ao n cap] ∧ n ≤ maxLen ∧ Row w ao n F T G ∧ WfTo F T n := by
  rcases open_slice Try.underlying22 h with ⟨rfl, _⟩ | ⟨a, len, cap, m, n, D, Pl, rfl, hb, hl, hm, hmm, _, hx⟩
  · exact ⟨none, 0, 0, fun _ => 0, fun _ => 0, fun _ => 0, rfl, Nat.zero_le _, fun k hk => by omega, fun k hk => by omega⟩
  have hlm : len ≤ m := by rw [hmm]; split <;> omega
  have each : ∀ i, i < len → ∃ q : Int × Int × Int, (w.cell? (a.add (i * 3)) = some (.int .i64 q.1) ∧ w.cell? (a.add (i * 3 + 1)) = some (.int .i64 q.2.1) ∧ w.cell? (a.add (i * 3 + 2)) = some (.int .i64 q.2.2)) ∧ (Lit.int .i64 q.1).wf = true ∧ (Lit.int .i64 q.2.1).wf = true := by
    intro i hi
    obtain ⟨cs', h1, h2⟩ := hx i (by omega)
    rw [Try.cellsLArc] at h1
    obtain ⟨_, hlen, hcell⟩ := World.cells?_some h1
    obtain ⟨y0, y1, y2, n', _, _, g0, g1, g2⟩ := trod_struct3 Try.underlying56 h2
    match cs', hlen with
    | [v0, v1, v2], _ =>
      simp [Try.cellsInt] at g0 g1 g2
      obtain ⟨q0, r0, _, f0⟩ := DataW.trod_int Try.underlying2 g0
      obtain ⟨q1, r1, _, f1⟩ := DataW.trod_int Try.underlying2 g1
      obtain ⟨q2, r2, _⟩ := DataW.trod_int Try.underlying2 g2
      have e0 := hcell 0 (by omega)
      have e1 := hcell 1 (by omega)
      have e2 := hcell 2 (by omega)
      rw [add_add] at e0 e1 e2
      simp at r0 r1 r2
      subst r0 r1 r2
      exact ⟨(q0, q1, q2), ⟨by simpa using e0, by simpa using e1, by simpa using e2⟩, f0, f1⟩
  obtain ⟨f, hf⟩ := choose_lt each
  refine ⟨some a, len, cap, fun i => (f i).1, fun i => (f i).2.1, fun i => (f i).2.2, rfl, by omega, fun k hk => ?_, fun k hk => (hf k hk).2⟩
  obtain ⟨b, o, spot⟩ := a
  have hspot : spot = none := by
    have := World.cell?_spot (hf 0 (by omega)).1.1
    simpa [Addr.add] using this
  subst hspot
  have := (hf k hk).1
  rw [Addr.add_mid, Addr.add_mid, Addr.add_mid] at this
  exact ⟨b, o, rfl, this.1, by simpa [Nat.add_assoc] using this.2.1, by simpa [Nat.add_assoc] using this.2.2⟩

set_option maxRecDepth 100000 in
theorem lawReweigh_lifted (os : Os) (started : os.Started) (H : Type) (enc : TypeId × Value → H) :
    ReturnsInHanded {} Try.checked os 5 .any (Rows.fnExactReweighSpec.pre6 enc Try.prog Try.f5 Rows.fnExactReweighRow.domain false) (Rows.fnExactReweighSpec.post enc Try.prog Try.f5 false true false false) := by
  refine returnsInHanded_of_change (C := Try.checked) Try.own started (by kernel_rfl) Try.func5
    (ChangeSpec.witness6 (enc := enc) (C := Try.checked) false ⟨#[], #[.agg #[.int .i64 0, .slice none 0 0], .slice none 0 0], []⟩ 8 (by kernel_rfl) (by kernel_rfl) (by kernel_rfl) (by kernel_rfl)) ?_
  intro W base args ds gs before hval0 hW hcnd _
  have hval : ∀ (j : Nat) t v, Try.f5.params[j]? = some t → args[j]? = some v → Value.okWide Try.prog W .any base t v := hval0
  have hW' := hW
  obtain ⟨p, q, hA0, hV, rfl, hfz, hnd⟩ := hW
  have hA : DataW.TrodAll enc Try.prog W 0 (fun _ => true) true Try.f5.params.toList args.toList ds p := hA0
  rw [Try.params5] at hA hval
  obtain ⟨v0, vs0, d0, ds0, p0, q0, hargs, rfl, rfl, h0, r0⟩ := trodAll_cons hA
  obtain ⟨v1, vs1, d1, ds1, p1, q1, rfl, rfl, rfl, h1, r1⟩ := trodAll_cons r0
  obtain ⟨rfl, rfl, rfl⟩ := trodAll_nil r1
  obtain rfl : args = #[v0, v1] := by cases args; simp_all
  obtain ⟨rfl, rfl⟩ := trodVars_none hV
  have k0 := h0
  have k1 := h1
  have lt0 : ∀ x ∈ p0, x.block < W.heap.size := by obtain ⟨m, hm⟩ := k0; exact DataW.trod_lt m _ _ _ hm
  have lt1 : ∀ x ∈ p1, x.block < W.heap.size := by obtain ⟨m, hm⟩ := k1; exact DataW.trod_lt m _ _ _ hm
  obtain ⟨c0, c1, y0, y1, m, rfl, _, _, hy0, hy1⟩ := open_agg2 Try.underlying24 (by kernel_rfl) Try.cellsLGraph (hval 0 24 v0 rfl rfl) h0
  obtain ⟨pl, e0, _, _⟩ := DataW.trod_int Try.underlying2 hy0
  obtain ⟨ao, n, cap, F, T, G, e1, hn, hr⟩ := open_arcs hy1
  obtain ⟨b1, l1, c1', rfl⟩ := okWide_slice Try.underlying22 (hval 1 22 v1 rfl rfl)
  obtain ⟨f1, hf1⟩ := h1
  obtain ⟨ao2, m2, cap2, A, B, C, e2, hm2, hr2, hwf2⟩ := open_arcs_wf hf1
  simp [Value.cells] at e0 e1 e2
  obtain ⟨rfl, rfl, rfl⟩ := e2
  subst e0 e1
  clear hA0 hval0
  refine (lawReweigh_walk pl ao n cap F T G b1 l1 c1' A B C hwf2 hn hm2 W hr hr2).mono fun e W' ⟨he, bel⟩ => ?_
  subst he
  exact ⟨_, rfl, _, _, _, [], _, [], hW', trodAll_mk1 (shut_bool Try.underlying4 _), (trodAll_cons_mk (Below.trod Try.laidOut (by kernel_rfl) (of_decide_eq_true (by kernel_rfl)) k0 bel lt0) (trodAll_cons_mk (Below.trod Try.laidOut (by kernel_rfl) (of_decide_eq_true (by kernel_rfl)) k1 bel lt1) trodAll_mk0)), rfl, bel.frame _, fun h => by cases h⟩

theorem fnExactReweigh_holds : Rows.FnExactReweighSaid :=
  OpenClaim.holds_of_wide 5 Try.f5 rfl rfl rfl rfl rfl rfl rfl ⟨rfl, rfl, rfl, rfl, rfl⟩ rfl rfl rfl rfl rfl (by kernel_rfl) Try.func5 (by kernel_rfl)
    (of_decide_eq_true (by kernel_rfl)) (by unfold Func.isWrapper; first | (rw [if_pos (by decide +kernel)]; kernel_rfl) | (rw [if_neg (by decide +kernel)]; exact ⟨rfl, rfl⟩))
    (fun os started H enc _ => lawReweigh_lifted os started H enc)
#print axioms fnExactReweigh_holds

end Go.Proofs.Ytapfheagchihhae
