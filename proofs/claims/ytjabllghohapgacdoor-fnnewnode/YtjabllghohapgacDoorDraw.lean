/-
  The document's draws: a cursor over bytes, and the numbers that it tells. What is drawn is not looked at; that it is in its range, and what memory it turns, is.
-/
import Derived.Test.YtjabllghohapgacDoorVh
import Derived.Test.YtjabllghohapgacDoorInts
import Derived.Deep.QuietTactic
import Derived.BigQuiet
set_option linter.unusedVariables false
set_option linter.unusedSimpArgs false
namespace Go.Proofs.YtjabllghohapgacDoor
open Go.RowKit
attribute [local go_sem ↓] Go.wp_at_zero Go.wp_at_succ

/-- n bytes lie behind a slice's address, in blocks below base. -/
def ByRow (w : World) (base : Nat) (ao : Option Addr) (n : Nat) : Prop := ∀ k, k < n → ∃ b o v, ao = some ⟨b, o, none⟩ ∧ b < base ∧ w.cell? ⟨b, o + k, none⟩ = some (.int .u8 v) ∧ 0 ≤ v ∧ v ≤ 255
/-- The cells of a cursor. -/
def curV (s : Value) (i h : Int) (j : Nat) : Value := if j = 0 then s else if j = 1 then .int .i64 i else .int .i64 h
/-- Block c is a cursor over n bytes. -/
structure CurAt (w : World) (base c : Nat) (ao : Option Addr) (n cap : Nat) : Prop where
  ge : base ≤ c
  len : n ≤ 4096
  by_ : ByRow w base ao n
  cur : ∃ i h : Int, 0 ≤ i ∧ i ≤ (n : Int) ∧ VHas w c 119 3 (curV (.slice ao n cap) i h)
theorem ByRow.grown {w w' : World} {base : Nat} {ao : Option Addr} {n x : Nat} (h : ByRow w base ao n) (hg : w.grownBy w' (some x)) (hx : base ≤ x) : ByRow w' base ao n := fun k hk => by
  obtain ⟨b, o, v, e, hb, hc, hv⟩ := h k hk
  exact ⟨b, o, v, e, hb, hg.cell hc (by simp; omega), hv⟩
theorem ByRow.below {w w' : World} {base : Nat} {ao : Option Addr} {n B : Nat} (h : ByRow w base ao n) (hb : Below B w w') (hB : base ≤ B) : ByRow w' base ao n := fun k hk => by
  obtain ⟨b, o, v, e, hlt, hc, hv⟩ := h k hk
  exact ⟨b, o, v, e, hlt, by rw [hb.cell (by simp; omega)]; exact hc, hv⟩
theorem CurAt.lt {w : World} {base c : Nat} {ao : Option Addr} {n cap : Nat} (h : CurAt w base c ao n cap) : c < w.heap.size := by
  obtain ⟨_, _, _, _, hv⟩ := h.cur
  exact hv.lt
theorem CurAt.grown {w w' : World} {base c x : Nat} {ao : Option Addr} {n cap : Nat} (h : CurAt w base c ao n cap) (hg : w.grownBy w' (some x)) (hx : base ≤ x) (hne : c ≠ x) : CurAt w' base c ao n cap := by
  obtain ⟨i, hh, h0, h1, hv⟩ := h.cur
  exact ⟨h.ge, h.len, h.by_.grown hg hx, i, hh, h0, h1, hv.grown hg (by simp; exact hne)⟩
theorem CurAt.next {w w' : World} {base c : Nat} {ao : Option Addr} {n cap : Nat} (h : CurAt w base c ao n cap) (hb : Below w.heap.size w w') : CurAt w' base c ao n cap := by
  obtain ⟨i, hh, h0, h1, hv⟩ := h.cur
  have := h.ge
  have := hv.lt
  exact ⟨h.ge, h.len, h.by_.below hb (by omega), i, hh, h0, h1, hv.next hb⟩

theorem and255 (y : Int) : 0 ≤ bits .and .i64 y 255 ∧ bits .and .i64 y 255 ≤ 255 := by
  have h : (BitVec.ofInt 64 y &&& BitVec.ofInt 64 255).toNat ≤ 255 := by
    rw [BitVec.toNat_and]
    exact Nat.le_trans Nat.and_le_right (by decide)
  have e : bits .and .i64 y 255 = IntKind.i64.wrap ((BitVec.ofInt 64 y &&& BitVec.ofInt 64 255).toNat : Int) := rfl
  rw [e, IntKind.wrap_i64]
  omega
theorem cur_h {w : World} {c : Nat} {s : Value} {i h : Int} (hv : VHas w c 119 3 (curV s i h)) (h' : Int) : VHas (w.setCell ⟨c, 2, none⟩ (.int .i64 h')) c 119 3 (curV s i h') :=
  (hv.set 2 _).congr (fun j hj => by
    have : j = 0 ∨ j = 1 ∨ j = 2 := by omega
    rcases this with rfl | rfl | rfl <;> rfl)
theorem cur_i {w : World} {c : Nat} {s : Value} {i h : Int} (hv : VHas w c 119 3 (curV s i h)) (i' : Int) : VHas (w.setCell ⟨c, 1, none⟩ (.int .i64 i')) c 119 3 (curV s i' h) :=
  (hv.set 1 _).congr (fun j hj => by
    have : j = 0 ∨ j = 1 ∨ j = 2 := by omega
    rcases this with rfl | rfl | rfl <;> rfl)
theorem gr_drewN (w : World) (n : Nat) (row : Option Nat) : w.grownBy (w.drewN n) row := ⟨rfl, rfl, rfl, Nat.le_refl _, fun _ _ _ => rfl⟩

set_option maxHeartbeats 2000000 in
theorem l1Byte_any (base c : Nat) (ao : Option Addr) (n cap : Nat) (w : World) (hC : CurAt w base c ao n cap) :
    Calls Tryd.prog 87 #[.pointer (some ⟨c, 0, none⟩)] w fun e w' => ∃ x : Int, e = .returned (.int .i64 x) ∧ 0 ≤ x ∧ x ≤ 255 ∧ CurAt w' base c ao n cap ∧ w.grownBy w' (some c) := by
  obtain ⟨hge, hlen, hby, i, h, hi0, hi1, hv⟩ := hC
  have c0 : w.cell? ⟨c, 0, none⟩ = some (.slice ao n cap) := hv.cell (by omega)
  have c1 : w.cell? ⟨c, 1, none⟩ = some (.int .i64 i) := hv.cell (j := 1) (by omega)
  have c2 : w.cell? ⟨c, 2, none⟩ = some (.int .i64 h) := hv.cell (j := 2) (by omega)
  have z1 := hv.frozen 1
  have z2 := hv.frozen 2
  obtain ⟨k, rfl⟩ : ∃ k : Nat, i = (k : Int) := ⟨i.toNat, by omega⟩
  have hg1 : ∀ v, w.grownBy (w.setCell ⟨c, 2, none⟩ v) (some c) := fun v => gr_setCell w c 2 v
  by_cases hk : k < n
  rotate_left
  · have hk' : ¬ (k : Int) < (n : Int) := by omega
    go_enter Tryd.func87, Tryd.ntmps87
    go_wp2
    go_quiet (fail)
    go_wp2
    go_quiet (fail)
    go_wp2
    go_ret
    refine ⟨_, rfl, (and255 _).1, (and255 _).2, ⟨hge, hlen, ?_, (k : Int), wrap64 (wrap64 (h * 6364136223846793005) + 1442695040888963407), hi0, hi1, ?_⟩, ?_⟩
    · exact ((hby.grown (hg1 _) hge).grown (gr_drewN _ _ _) hge).grown (gr_drewN _ _ _) hge
    · exact ((cur_h hv _).of_block rfl).of_block rfl
    · exact ((hg1 _).trans (gr_drewN _ _ _)).trans (gr_drewN _ _ _)
  have hk' : (k : Int) < (n : Int) := by omega
  obtain ⟨b, o, v, hao, hbb, hcb, hv0, hv1⟩ := hby k hk
  subst hao
  have hne : b ≠ c := by omega
  have hk0 : (0 : Int) ≤ (k : Int) := by omega
  go_enter Tryd.func87, Tryd.ntmps87
  go_wp2
  go_quiet (fail)
  go_wp2
  go_quiet (fail)
  go_wp2
  go_quiet (fail)
  go_wp2
  go_ret
  refine ⟨_, rfl, (and255 _).1, (and255 _).2, ⟨hge, hlen, ?_, ((k + 1 : Nat) : Int), wrap64 (wrap64 (h * 6364136223846793005) + 1442695040888963407), by omega, by omega, ?_⟩, ?_⟩
  · exact ((hby.grown (hg1 _) hge).grown (gr_drewN _ _ _) hge).grown (gr_setCell _ c 1 _) hge
  · exact cur_i ((cur_h hv _).of_block rfl) _
  · exact ((hg1 _).trans (gr_drewN _ _ _)).trans (gr_setCell _ c 1 _)

/-- A number below m is drawn. -/
theorem l1Below_any (base c : Nat) (ao : Option Addr) (n cap : Nat) (m : Int) (hm0 : 1 ≤ m) (hm : m ≤ 256) (w : World) (hC : CurAt w base c ao n cap) :
    Calls Tryd.prog 54 #[.pointer (some ⟨c, 0, none⟩), .int .i64 m] w fun e w' => ∃ x : Nat, e = .returned (.int .i64 (x : Int)) ∧ (x : Int) < m ∧ CurAt w' base c ao n cap ∧ w.grownBy w' (some c) := by
  have hm1 : ¬ m ≤ 0 := by omega
  have hm2 : m ≠ 0 := by omega
  go_enter Tryd.func54, Tryd.ntmps54
  go_wp2_with (go_at_call 87; refine (l1Byte_any base c ao n cap _ hC).mono ?_; rintro e w1 ⟨x, rfl, hx0, hx1, hC1, hg1⟩)
  go_ret
  refine ⟨(x % m).toNat, ?_, ?_, hC1, hg1⟩
  · have := Int.emod_nonneg x hm2
    exact (congrArg (fun z => Ending.returned (.int .i64 z)) (by omega))
  · have h1 := Int.emod_nonneg x hm2
    have h2 := Int.emod_lt_of_pos x (show 0 < m by omega)
    omega

theorem l1Once_any (base c : Nat) (ao : Option Addr) (n cap : Nat) (m : Int) (hm0 : 1 ≤ m) (hm : m ≤ 256) (w : World) (hC : CurAt w base c ao n cap) :
    Calls Tryd.prog 49 #[.pointer (some ⟨c, 0, none⟩), .int .i64 m] w fun e w' => ∃ b : Bool, e = .returned (.bool b) ∧ CurAt w' base c ao n cap ∧ w.grownBy w' (some c) := by
  go_enter Tryd.func49, Tryd.ntmps49
  go_wp2_with (go_at_call 54; refine (l1Below_any base c ao n cap m hm0 hm _ hC).mono ?_; rintro e w1 ⟨x, rfl, hx, hC1, hg1⟩)
  go_ret
  exact ⟨_, rfl, hC1, hg1⟩

end Go.Proofs.YtjabllghohapgacDoor
