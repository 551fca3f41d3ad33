/-
  Helpers: ApT, Draw, DrawN, DrawMap, DrawOne, DrawBox.
-/
import Derived.Test.YthmpliljffmmcaaGreatDoorPack26
import Derived.Test.YthmpliljffmmcaaGreatDoorPack1
import Derived.Deep.QuietTactic
import Derived.BigQuiet
import Derived.Test.YthmpliljffmmcaaGreatDoorPack5
import Derived.Deep.RegionLaw
set_option linter.unusedVariables false
set_option linter.unusedSimpArgs false
namespace Go.Proofs.YthmpliljffmmcaaGreatDoor
section
open Go.RowKit Go.Maps Go.Deep Go.Joins
attribute [local go_sem ↓] Go.wp_at_zero Go.wp_at_succ
theorem specApply_any (p : Int) (ao : Option Addr) (n cap : Nat) (F T G : Nat → Int) (po : Option Addr) (k pcap : Nat) (P : Nat → Int) (eo : Option Addr) (m ecap : Nat) (L H : Nat → Int) (V : Int) (so : Option Addr) (t scap : Nat) (S : Nat → ByteArray) (K a b : Int) (xo : Option Addr) (x xc : Nat) (A B C : Nat → Int) (hn : n ≤ 1048576) (hk : k ≤ 1048576) (hm : m ≤ 1048576) (ht : t ≤ 1000000) (hx : x ≤ 1048576) (w : World) (hr : Row w ao n F T G) (hp : IRow w po k P) (he : ERow w eo m L H) (hs : SRow w so t S) (hc : Row w xo x A B C) :
    Calls Tryz.prog 8 #[.agg #[.int .i64 p, .slice ao n cap, .slice po k pcap, .slice eo m ecap, .int .i64 V, .slice so t scap], .agg #[.int .i64 K, .slice xo x xc, .int .i64 a, .int .i64 b]] w fun e w' => SvOut w w' e F T P L H (apR p n F T G k P m L H V t S K x A B C a b) := (specApply_t p ao n cap F T G po k pcap P eo m ecap L H V so t scap S K a b xo x xc A B C hn hk hm ht hx w hr hp he hs hc).mono fun e w' h => h.out
end
section
open Go.RowKit
attribute [local go_sem ↓] Go.wp_at_zero Go.wp_at_succ
def ByRow (w : World) (base : Nat) (ao : Option Addr) (n : Nat) : Prop := ∀ k, k < n → ∃ b o v, ao = some ⟨b, o, none⟩ ∧ b < base ∧ w.cell? ⟨b, o + k, none⟩ = some (.int .u8 v) ∧ 0 ≤ v ∧ v ≤ 255
def curV (s : Value) (i h : Int) (j : Nat) : Value := if j = 0 then s else if j = 1 then .int .i64 i else .int .i64 h
structure CurAt (w : World) (base c : Nat) (ao : Option Addr) (n cap : Nat) : Prop where
  ge : base ≤ c
  len : n ≤ 4096
  by_ : ByRow w base ao n
  cur : ∃ i h : Int, 0 ≤ i ∧ i ≤ (n : Int) ∧ VHas w c 77 3 (curV (.slice ao n cap) i h)
theorem ByRow.grown {w w' : World} {base : Nat} {ao : Option Addr} {n x : Nat} (h : ByRow w base ao n) (hg : w.grownBy w' (some x)) (hx : base ≤ x) : ByRow w' base ao n := fun k hk => by
  obtain ⟨b, o, v, e, hb, hc, hv⟩ := h k hk
  exact ⟨b, o, v, e, hb, hg.cell hc (by simp; omega), hv⟩
theorem ByRow.below {w w' : World} {base : Nat} {ao : Option Addr} {n B : Nat} (h : ByRow w base ao n) (hb : Below B w w') (hB : base ≤ B) : ByRow w' base ao n := fun k hk => by
  obtain ⟨b, o, v, e, hlt, hc, hv⟩ := h k hk
  exact ⟨b, o, v, e, hlt, by rw [hb.cell (by simp; omega)]; exact hc, hv⟩
theorem CurAt.lt {w : World} {base c : Nat} {ao : Option Addr} {n cap : Nat} (h : CurAt w base c ao n cap) : c < w.heap.size := by
  obtain ⟨_, _, _, _, hv⟩ := h.cur
  exact hv.lt
theorem CurAt.grown {w w' : World} {base c x : Nat} {ao : Option Addr} {n cap : Nat} (h : CurAt w base c ao n cap) (hg : w.grownBy w' (some x)) (hx : base ≤ x) (hne : c ≠ x) : CurAt w' base c ao n cap := by
  obtain ⟨i, hh, h0, h1, hv⟩ := h.cur
  exact ⟨h.ge, h.len, h.by_.grown hg hx, i, hh, h0, h1, hv.grown hg (by simp; exact hne)⟩
theorem CurAt.next {w w' : World} {base c : Nat} {ao : Option Addr} {n cap : Nat} (h : CurAt w base c ao n cap) (hb : Below w.heap.size w w') : CurAt w' base c ao n cap := by
  obtain ⟨i, hh, h0, h1, hv⟩ := h.cur
  have := h.ge
  have := hv.lt
  exact ⟨h.ge, h.len, h.by_.below hb (by omega), i, hh, h0, h1, hv.next hb⟩
theorem and255 (y : Int) : 0 ≤ bits .and .i64 y 255 ∧ bits .and .i64 y 255 ≤ 255 := by
  have h : (BitVec.ofInt 64 y &&& BitVec.ofInt 64 255).toNat ≤ 255 := by
    rw [BitVec.toNat_and]
    exact Nat.le_trans Nat.and_le_right (by decide)
  have e : bits .and .i64 y 255 = IntKind.i64.wrap ((BitVec.ofInt 64 y &&& BitVec.ofInt 64 255).toNat : Int) := rfl
  rw [e, IntKind.wrap_i64]
  omega
theorem cur_h {w : World} {c : Nat} {s : Value} {i h : Int} (hv : VHas w c 77 3 (curV s i h)) (h' : Int) : VHas (w.setCell ⟨c, 2, none⟩ (.int .i64 h')) c 77 3 (curV s i h') :=
  (hv.set 2 _).congr (fun j hj => by
    have : j = 0 ∨ j = 1 ∨ j = 2 := by omega
    rcases this with rfl | rfl | rfl <;> rfl)
theorem cur_i {w : World} {c : Nat} {s : Value} {i h : Int} (hv : VHas w c 77 3 (curV s i h)) (i' : Int) : VHas (w.setCell ⟨c, 1, none⟩ (.int .i64 i')) c 77 3 (curV s i' h) :=
  (hv.set 1 _).congr (fun j hj => by
    have : j = 0 ∨ j = 1 ∨ j = 2 := by omega
    rcases this with rfl | rfl | rfl <;> rfl)
theorem gr_drewN (w : World) (n : Nat) (row : Option Nat) : w.grownBy (w.drewN n) row := ⟨rfl, rfl, rfl, Nat.le_refl _, fun _ _ _ => rfl⟩
set_option maxHeartbeats 2000000 in
theorem l1Byte_any (base c : Nat) (ao : Option Addr) (n cap : Nat) (w : World) (hC : CurAt w base c ao n cap) :
    Calls Tryz.prog 76 #[.pointer (some ⟨c, 0, none⟩)] w fun e w' => ∃ x : Int, e = .returned (.int .i64 x) ∧ 0 ≤ x ∧ x ≤ 255 ∧ CurAt w' base c ao n cap ∧ w.grownBy w' (some c) := by
  obtain ⟨hge, hlen, hby, i, h, hi0, hi1, hv⟩ := hC
  have c0 : w.cell? ⟨c, 0, none⟩ = some (.slice ao n cap) := hv.cell (by omega)
  have c1 : w.cell? ⟨c, 1, none⟩ = some (.int .i64 i) := hv.cell (j := 1) (by omega)
  have c2 : w.cell? ⟨c, 2, none⟩ = some (.int .i64 h) := hv.cell (j := 2) (by omega)
  have z1 := hv.frozen 1
  have z2 := hv.frozen 2
  obtain ⟨k, rfl⟩ : ∃ k : Nat, i = (k : Int) := ⟨i.toNat, by omega⟩
  have hg1 : ∀ v, w.grownBy (w.setCell ⟨c, 2, none⟩ v) (some c) := fun v => gr_setCell w c 2 v
  by_cases hk : k < n
  rotate_left
  · have hk' : ¬ (k : Int) < (n : Int) := by omega
    go_enter Tryz.func76, Tryz.ntmps76
    go_wp2
    go_quiet (fail)
    go_wp2
    go_quiet (fail)
    go_wp2
    go_ret
    refine ⟨_, rfl, (and255 _).1, (and255 _).2, ⟨hge, hlen, ?_, (k : Int), wrap64 (wrap64 (h * 6364136223846793005) + 1442695040888963407), hi0, hi1, ?_⟩, ?_⟩
    · exact ((hby.grown (hg1 _) hge).grown (gr_drewN _ _ _) hge).grown (gr_drewN _ _ _) hge
    · exact ((cur_h hv _).of_block rfl).of_block rfl
    · exact ((hg1 _).trans (gr_drewN _ _ _)).trans (gr_drewN _ _ _)
  have hk' : (k : Int) < (n : Int) := by omega
  obtain ⟨b, o, v, hao, hbb, hcb, hv0, hv1⟩ := hby k hk
  subst hao
  have hne : b ≠ c := by omega
  have hk0 : (0 : Int) ≤ (k : Int) := by omega
  go_enter Tryz.func76, Tryz.ntmps76
  go_wp2
  go_quiet (fail)
  go_wp2
  go_quiet (fail)
  go_wp2
  go_quiet (fail)
  go_wp2
  go_ret
  refine ⟨_, rfl, (and255 _).1, (and255 _).2, ⟨hge, hlen, ?_, ((k + 1 : Nat) : Int), wrap64 (wrap64 (h * 6364136223846793005) + 1442695040888963407), by omega, by omega, ?_⟩, ?_⟩
  · exact ((hby.grown (hg1 _) hge).grown (gr_drewN _ _ _) hge).grown (gr_setCell _ c 1 _) hge
  · exact cur_i ((cur_h hv _).of_block rfl) _
  · exact ((hg1 _).trans (gr_drewN _ _ _)).trans (gr_setCell _ c 1 _)
theorem l1Below_any (base c : Nat) (ao : Option Addr) (n cap : Nat) (m : Int) (hm0 : 1 ≤ m) (hm : m ≤ 256) (w : World) (hC : CurAt w base c ao n cap) :
    Calls Tryz.prog 49 #[.pointer (some ⟨c, 0, none⟩), .int .i64 m] w fun e w' => ∃ x : Nat, e = .returned (.int .i64 (x : Int)) ∧ (x : Int) < m ∧ CurAt w' base c ao n cap ∧ w.grownBy w' (some c) := by
  have hm1 : ¬ m ≤ 0 := by omega
  have hm2 : m ≠ 0 := by omega
  go_enter Tryz.func49, Tryz.ntmps49
  go_wp2_with (go_at_call 76; refine (l1Byte_any base c ao n cap _ hC).mono ?_; rintro e w1 ⟨x, rfl, hx0, hx1, hC1, hg1⟩)
  go_ret
  refine ⟨(x % m).toNat, ?_, ?_, hC1, hg1⟩
  · have := Int.emod_nonneg x hm2
    exact (congrArg (fun z => Ending.returned (.int .i64 z)) (by omega))
  · have h1 := Int.emod_nonneg x hm2
    have h2 := Int.emod_lt_of_pos x (show 0 < m by omega)
    omega
theorem l1Once_any (base c : Nat) (ao : Option Addr) (n cap : Nat) (m : Int) (hm0 : 1 ≤ m) (hm : m ≤ 256) (w : World) (hC : CurAt w base c ao n cap) :
    Calls Tryz.prog 51 #[.pointer (some ⟨c, 0, none⟩), .int .i64 m] w fun e w' => ∃ b : Bool, e = .returned (.bool b) ∧ CurAt w' base c ao n cap ∧ w.grownBy w' (some c) := by
  go_enter Tryz.func51, Tryz.ntmps51
  go_wp2_with (go_at_call 49; refine (l1Below_any base c ao n cap m hm0 hm _ hC).mono ?_; rintro e w1 ⟨x, rfl, hx, hC1, hg1⟩)
  go_ret
  exact ⟨_, rfl, hC1, hg1⟩
end
section
open Go.RowKit Go.Maps
attribute [local go_sem ↓] Go.wp_at_zero Go.wp_at_succ
set_option maxHeartbeats 1000000 in
theorem l1New_any (ao : Option Addr) (n cap : Nat) (hn : n ≤ 4096) (w : World) (hr : ByRow w w.heap.size ao n) :
    Calls Tryz.prog 19 #[.slice ao n cap] w fun e w' => ∃ c, e = .returned (.pointer (some ⟨c, 0, none⟩)) ∧ CurAt w' w.heap.size c ao n cap ∧ Below w.heap.size w w' := by
  go_enter Tryz.func19, Tryz.ntmps19
  go_wp2
  go_loopw [3, 4] (fun x i wr => ∃ (k : Nat) (h : Int), k ≤ n ∧ x = .int .i64 h ∧ i = .int .i64 k ∧ wr = w) (fun _ i _ => n - (intOf i).toNat)
  case atStart => exact ⟨0, _, Nat.zero_le _, rfl, rfl, rfl⟩
  case round =>
    obtain ⟨k, h, hk, rfl, rfl, rfl⟩ := hrel
    by_cases hlt : k < n
    · obtain ⟨b, o, v, hao, hbb, hcb, hv0, hv1⟩ := hr k hlt
      subst hao
      go_wp2
      go_roundw
      case rel => exact ⟨k + 1, _, by omega, rfl, by go_num, by first | trivial | rfl⟩
      case measure => simp [intOf]; omega
    · go_wp2
      go_ret
      refine ⟨_, rfl, ⟨Nat.le_refl _, hn, hr.below ((Below.refl _ _).alloc nl _) nl, 0, h, by omega, by omega, ?_⟩, (Below.refl _ _).alloc nl _⟩
      exact ⟨_, Go.Deep.blk_alloc_new _ _, by simp, fun j hj => by
        have : j = 0 ∨ j = 1 ∨ j = 2 := by omega
        rcases this with rfl | rfl | rfl <;> rfl⟩
theorem wfA {x : Int} (h : -9223372036854775808 ≤ x ∧ x ≤ 9223372036854775807) : (Lit.int .i64 x).wf = true := WalkArith.wf_i64 h
theorem wf_wrap (x : Int) : (Lit.int .i64 (IntKind.i64.wrap x)).wf = true := wfA (by rw [IntKind.wrap_i64]; omega)
def AOwnE (w : World) (base : Nat) (ao : Option Addr) (n cap : Nat) : Prop := ∃ f : Nat → Int, (∀ j, (Lit.int .i64 (f j)).wf = true) ∧ w.ownsRow base 67 3 (.slice ao n cap) n (cellsOf f (n * 3))
theorem AOwnE.grown {w w' : World} {base n cap x : Nat} {ao : Option Addr} (h : AOwnE w base ao n cap) (hg : w.grownBy w' (some x)) (hx : x < base) : AOwnE w' base ao n cap := by
  obtain ⟨f, hw9, hl, h0 | ⟨g, cap', cur, hv, hb, hh, rest⟩⟩ := h
  · exact ⟨f, hw9, hl, .inl h0⟩
  · exact ⟨f, hw9, hl, .inr ⟨g, cap', cur, hv, hb, (hg.block g (Array.getElem?_eq_some_iff.1 hh).1 (by simp; omega)).trans hh, rest⟩⟩
theorem AOwnE.next {w w' : World} {base n cap : Nat} {ao : Option Addr} (h : AOwnE w base ao n cap) (hb : Below w.heap.size w w') : AOwnE w' base ao n cap := by
  obtain ⟨f, hw9, hl, h0 | ⟨g, cap', cur, hv, hb', hh, rest⟩⟩ := h
  · exact ⟨f, hw9, hl, .inl h0⟩
  · exact ⟨f, hw9, hl, .inr ⟨g, cap', cur, hv, hb', (hb.block g (Array.getElem?_eq_some_iff.1 hh).1).trans hh, rest⟩⟩
theorem AOwnE.from {w : World} {base base' n cap : Nat} {ao : Option Addr} (h : AOwnE w base ao n cap) (hb : base' ≤ base) : AOwnE w base' ao n cap := by
  obtain ⟨f, hw9, hl, h0 | ⟨g, cap', cur, hv, hb', rest⟩⟩ := h
  · exact ⟨f, hw9, hl, .inl h0⟩
  · exact ⟨f, hw9, hl, .inr ⟨g, cap', cur, hv, by omega, rest⟩⟩
theorem AOwnE.row {w : World} {base n cap : Nat} {ao : Option Addr} (h : AOwnE w base ao n cap) : ∃ F T G : Nat → Int, Row w ao n F T G ∧ (0 < n → ∃ g, ao = some ⟨g, 0, none⟩ ∧ base ≤ g) := by
  obtain ⟨f, hw9, hl, h0 | ⟨g, cap', cur, hv, hb', hh, h1, h2, h3, h4⟩⟩ := h
  · exact ⟨fun _ => 0, fun _ => 0, fun _ => 0, fun k hk => by omega, fun h => by omega⟩
  · simp at hv
    obtain ⟨rfl, rfl⟩ := hv
    have hc : ∀ j, j < n * 3 → w.cell? ⟨g, j, none⟩ = some (.int .i64 (f j)) := fun j hj => by
      have : (cur.toList.take (n * 3))[j]? = (cellsOf f (n * 3))[j]? := by rw [h4]
      rw [List.getElem?_take_of_lt hj, cellsOf, List.getElem?_map, List.getElem?_range hj] at this
      simp [World.cell?, hh]
      simpa using this
    exact ⟨fun k => f (k * 3), fun k => f (k * 3 + 1), fun k => f (k * 3 + 2), fun k hk => ⟨g, 0, rfl, by simpa using hc (k * 3) (by omega), by simpa using hc (k * 3 + 1) (by omega), by simpa using hc (k * 3 + 2) (by omega)⟩, fun _ => ⟨g, rfl, hb'⟩⟩
theorem AOwnE.rowW {w : World} {base n cap : Nat} {ao : Option Addr} (h : AOwnE w base ao n cap) : ∃ F T G : Nat → Int, Row w ao n F T G ∧ (∀ k, k < n → (Lit.int .i64 (F k)).wf = true ∧ (Lit.int .i64 (T k)).wf = true) ∧ (0 < n → ∃ g, ao = some ⟨g, 0, none⟩ ∧ base ≤ g) := by
  obtain ⟨f, hw9, hl, h0 | ⟨g, cap', cur, hv, hb', hh, h1, h2, h3, h4⟩⟩ := h
  · exact ⟨fun _ => 0, fun _ => 0, fun _ => 0, fun k hk => by omega, fun k hk => by omega, fun h => by omega⟩
  · simp at hv
    obtain ⟨rfl, rfl⟩ := hv
    have hc : ∀ j, j < n * 3 → w.cell? ⟨g, j, none⟩ = some (.int .i64 (f j)) := fun j hj => by
      have : (cur.toList.take (n * 3))[j]? = (cellsOf f (n * 3))[j]? := by rw [h4]
      rw [List.getElem?_take_of_lt hj, cellsOf, List.getElem?_map, List.getElem?_range hj] at this
      simp [World.cell?, hh]
      simpa using this
    exact ⟨fun k => f (k * 3), fun k => f (k * 3 + 1), fun k => f (k * 3 + 2), fun k hk => ⟨g, 0, rfl, by simpa using hc (k * 3) (by omega), by simpa using hc (k * 3 + 1) (by omega), by simpa using hc (k * 3 + 2) (by omega)⟩, fun k _ => ⟨hw9 _, hw9 _⟩, fun _ => ⟨g, rfl, hb'⟩⟩
def put3 (f : Nat → Int) (m : Nat) (x y z : Int) (j : Nat) : Int := if j < m then f j else if j = m then x else if j = m + 1 then y else z
theorem put3_wf {f : Nat → Int} {m : Nat} {x y z : Int} (hf : ∀ j, (Lit.int .i64 (f j)).wf = true) (hx : (Lit.int .i64 x).wf = true) (hy : (Lit.int .i64 y).wf = true) (hz : (Lit.int .i64 z).wf = true) (j : Nat) : (Lit.int .i64 (put3 f m x y z j)).wf = true := by
  unfold put3
  split
  · exact hf j
  · split
    · exact hx
    · split
      · exact hy
      · exact hz
theorem cells_put3 (f : Nat → Int) (n : Nat) (x y z : Int) : cellsOf f (n * 3) ++ [.int .i64 x, .int .i64 y, .int .i64 z] = cellsOf (put3 f (n * 3) x y z) ((n + 1) * 3) := by
  have e : (n + 1) * 3 = n * 3 + 1 + 1 + 1 := by omega
  have h0 : cellsOf (put3 f (n * 3) x y z) (n * 3) = cellsOf f (n * 3) := by
    unfold cellsOf
    refine List.map_congr_left fun j hj => ?_
    have := List.mem_range.1 hj
    simp [put3, this]
  have s : ∀ m, cellsOf (put3 f (n * 3) x y z) (m + 1) = cellsOf (put3 f (n * 3) x y z) m ++ [.int .i64 (put3 f (n * 3) x y z m)] := fun m => by
    simp [cellsOf, List.range_succ]
  have g0 : put3 f (n * 3) x y z (n * 3) = x := by simp [put3]
  have g1 : put3 f (n * 3) x y z (n * 3 + 1) = y := by
    unfold put3
    rw [if_neg (by omega), if_neg (by omega), if_pos rfl]
  have g2 : put3 f (n * 3) x y z (n * 3 + 1 + 1) = z := by
    unfold put3
    rw [if_neg (by omega), if_neg (by omega), if_neg (by omega)]
  rw [e, s, s, s, h0, g0, g1, g2]
  simp
theorem news_arc {w : World} {B : Nat} {x y z : Int} {t : TypeId} (hb : w.heap[B]? = some (.cells #[.int .i64 x, .int .i64 y, .int .i64 z] t (0, 0))) : ∀ j u, [Value.int .i64 x, .int .i64 y, .int .i64 z][j]? = some u → w.cell? ((⟨B, 0, none⟩ : Addr).add j) = some u :=
  World.news_of_block hb
theorem one_arc (x y z : Int) : ∀ u ∈ [Value.int .i64 x, .int .i64 y, .int .i64 z], u.oneCell' = true := fun u hu => by
  simp at hu
  rcases hu with rfl | rfl | rfl <;> rfl
def grV (p : Int) (v : Value) (j : Nat) : Value := if j = 0 then .int .i64 p else v
structure DS (w : World) (base c : Nat) (ao : Option Addr) (n cap : Nat) (rb gb : Nat) (p : Int) (go : Option Addr) (k gc : Nat) (W : World) : Prop where
  cur : CurAt W base c ao n cap
  box : VHas W gb 26 2 (grV p (.slice go k gc))
  own : AOwnE W (rb + 1) go k gc
  ne : ∀ a, go = some a → a.block ≠ gb
  res : VHas W rb 26 2 (grV 0 (.slice none 0 0))
  gr : w.grownBy W (some c)
theorem DS.step {w : World} {base c : Nat} {ao : Option Addr} {n cap rb gb : Nat} {p : Int} {go : Option Addr} {k gc : Nat} {W W' : World} (h : DS w base c ao n cap rb gb p go k gc W) (hc : c < rb ∧ rb < gb) (hC : CurAt W' base c ao n cap) (hg : W.grownBy W' (some c)) : DS w base c ao n cap rb gb p go k gc W' :=
  ⟨hC, h.box.grown hg (by simp; omega), h.own.grown hg (by omega), h.ne, h.res.grown hg (by simp; omega), h.gr.trans hg⟩
theorem DS.next {w : World} {base c : Nat} {ao : Option Addr} {n cap rb gb : Nat} {p : Int} {go : Option Addr} {k gc : Nat} {W W' : World} (h : DS w base c ao n cap rb gb p go k gc W) (hb : Below W.heap.size W W') : DS w base c ao n cap rb gb p go k gc W' :=
  ⟨h.cur.next hb, h.box.next hb, h.own.next hb, h.ne, h.res.next hb, h.gr.trans (below_grown hb)⟩
theorem gr_new (w : World) (p : Int) (v : Value) : VHas (w.alloc (.cells #[.int .i64 p, v] 26)) w.heap.size 26 2 (grV p v) :=
  ⟨_, Go.Deep.blk_alloc_new _ _, by simp, fun j hj => by
    have : j = 0 ∨ j = 1 := by omega
    rcases this with rfl | rfl <;> rfl⟩
theorem aown_nil (w : World) (base : Nat) : AOwnE w base none 0 0 := ⟨fun _ => 0, fun _ => wfA (x := 0) (by omega), by simp [cellsOf], .inl ⟨rfl, rfl⟩⟩
theorem gr_far {w W W' : World} {c B : Nat} {row : Option Nat} (h : w.grownBy W (some c)) (hg : W.grownBy W' row) (hr : ∀ g, row = some g → B ≤ g) (hB : w.heap.size ≤ B) : w.grownBy W' (some c) :=
  ⟨hg.os.trans h.os, hg.tape.trans h.tape, hg.output.trans h.output, Nat.le_trans h.size hg.size, fun k hk hne => (hg.block k (Nat.lt_of_lt_of_le hk h.size) (fun e => by have := hr k e.symm; omega)).trans (h.block k hk hne)⟩
theorem CurAt.far {w w' : World} {base c B : Nat} {ao : Option Addr} {n cap : Nat} {row : Option Nat} (h : CurAt w base c ao n cap) (hg : w.grownBy w' row) (hr : ∀ g, row = some g → B ≤ g) (hB : c < B) : CurAt w' base c ao n cap := by
  obtain ⟨i, hh, h0, h1, hv⟩ := h.cur
  have hge := h.ge
  refine ⟨h.ge, h.len, fun k hk => ?_, i, hh, h0, h1, hv.grown hg (fun e => by have := hr c e.symm; omega)⟩
  obtain ⟨b, o, v, e, hb, hc, hv'⟩ := h.by_ k hk
  exact ⟨b, o, v, e, hb, hg.cell hc (fun e => by have := hr b e.symm; omega), hv'⟩
theorem AOwnE.at {w : World} {base n cap x : Nat} {ao : Option Addr} (h : AOwnE w base ao n cap) (e : (Value.slice ao n cap).ownBlock = some x) : base ≤ x ∧ x < w.heap.size := by
  obtain ⟨f, _, hf⟩ := h
  exact World.ownsRow.lt hf x e
theorem own_block {ao : Option Addr} {n cap x : Nat} (e : (Value.slice ao n cap).ownBlock = some x) : ∃ a, ao = some a ∧ a.block = x := by
  cases ao with
  | none => simp [Value.ownBlock] at e
  | some a => exact ⟨a, rfl, by simpa [Value.ownBlock] using e⟩
theorem DS.row {w : World} {base c : Nat} {ao : Option Addr} {n cap rb gb : Nat} {p : Int} {go : Option Addr} {k gc : Nat} {W : World} (h : DS w base c ao n cap rb gb p go k gc W) {x : Nat} (e : (Value.slice go k gc).ownBlock = some x) : rb + 1 ≤ x ∧ x ≠ gb := by
  obtain ⟨a, ha, rfl⟩ := own_block e
  exact ⟨(h.own.at e).1, h.ne a ha⟩
theorem DS.appended {w : World} {base c : Nat} {ao : Option Addr} {n cap rb gb : Nat} {p : Int} {go : Option Addr} {k gc : Nat} {W W' : World} (h : DS w base c ao n cap rb gb p go k gc W) (hc : (c < rb ∧ rb < gb) ∧ w.heap.size ≤ rb) (hg : W.grownBy W' (Value.slice go k gc).ownBlock) {g' k' gc' : Nat} (hown : AOwnE W' (rb + 1) (some ⟨g', 0, none⟩) k' gc') (hat : (Value.slice go k gc).ownBlock = some g' ∨ g' = W.heap.size) :
    DS w base c ao n cap rb gb p (some ⟨g', 0, none⟩) k' gc' (W'.setCell ⟨gb, 1, none⟩ (.slice (some ⟨g', 0, none⟩) k' gc')) := by
  have hr : ∀ g, (Value.slice go k gc).ownBlock = some g → rb + 1 ≤ g := fun g e => (h.row e).1
  have hgl := h.box.lt
  have hng : g' ≠ gb := by
    rcases hat with e | e
    · exact (h.row e).2
    · omega
  have hs := gr_setCell W' gb 1 (.slice (some ⟨g', 0, none⟩) k' gc')
  have hbx := h.box.grown hg (fun e => (h.row e.symm).2 rfl)
  have hge := h.cur.ge
  refine ⟨(h.cur.far hg hr (by omega)).grown hs (by omega) (by omega), (hbx.set 1 _).congr (fun j hj => ?_), ?_, fun a e => by cases e; exact hng, (h.res.grown hg (fun e => by have := hr rb e.symm; omega)).grown hs (by simp; omega), ?_⟩
  · have : j = 0 ∨ j = 1 := by omega
    rcases this with rfl | rfl <;> rfl
  · obtain ⟨f, hw9, hl, h0 | ⟨g, cap', cur, hv, hb, hh, rest⟩⟩ := hown
    · simp at h0
    · have hv' := hv
      simp at hv'
      exact ⟨f, hw9, hl, .inr ⟨g, cap', cur, hv, hb, (hs.block g (Array.getElem?_eq_some_iff.1 hh).1 (by simp; omega)).trans hh, rest⟩⟩
  · have h1 := gr_far h.gr hg hr (by omega)
    exact gr_far (row := some gb) h1 hs (fun g e => by cases e; exact Nat.le_refl _) (by omega)
theorem wp_append_arc {o : Oper} {a : Act} {w : World} {K : Act → World → Prop} {Q : Exit → Act → World → Prop} (s x : Operand)
    (ho : o.op = .call { callee := .builtin .append, args := #[s, x], argTypes := #[24, 24] }) (base k gc : Nat) (go : Option Addr) (hs : a.eval s = .slice go k gc) (hown : AOwnE w base go k gc) (B : Nat) (hx : a.eval x = .slice (some ⟨B, 0, none⟩) 1 1)
    (X Y Z : Int) (hB : w.heap[B]? = some (.cells #[.int .i64 X, .int .i64 Y, .int .i64 Z] 67 (0, 0))) (hk : k ≤ 1000) (hbase : base ≤ w.heap.size) (hX9 : (Lit.int .i64 X).wf = true) (hY9 : (Lit.int .i64 Y).wf = true) (hZ9 : (Lit.int .i64 Z).wf = true)
    (h : ∀ g' gc' w', AOwnE w' base (some ⟨g', 0, none⟩) (k + 1) gc' → w.grownBy w' (Value.slice go k gc).ownBlock → ((Value.slice go k gc).ownBlock = some g' ∨ g' = w.heap.size) → K (a.put o.dst (.slice (some ⟨g', 0, none⟩) (k + 1) gc')) w') : o.wp Tryz.prog a w K Q := by
  obtain ⟨i0, hi0, hz0, hz1, hz2⟩ := info_parts Tryz.infoArc
  obtain ⟨f, hw9, hown⟩ := hown
  refine wp_append_lies w s x 24 ho base 67 i0 _ 3 24 Tryz.underlying24 hi0 hz0 hz1 hz2 rfl (by omega) _ k (cellsOf f (k * 3)) hs hown ⟨B, 0, none⟩ 1 1 [.int .i64 X, .int .i64 Y, .int .i64 Z] hx rfl (news_arc hB) (one_arc _ _ _) (by omega) (by unfold maxLen; omega) (by omega) hbase w.heap.size rfl ?_
  intro g' gc' w' hown' hgrow hat _
  rw [cells_put3] at hown'
  exact h g' gc' w' ⟨_, put3_wf hw9 hX9 hY9 hZ9, hown'⟩ hgrow hat
theorem step_append_arc {ops : Array Oper} {o : Oper} {a : Act} {w : World} {K : Act → World → Prop} {Q : Exit → Act → World → Prop} {E : Prop} (hgd : o.guard = none) (s x : Operand)
    (ho : o.op = .call { callee := .builtin .append, args := #[s, x], argTypes := #[24, 24] }) (base k gc : Nat) (go : Option Addr) (hs : a.eval s = .slice go k gc) (hown : AOwnE w base go k gc) (B : Nat) (hx : a.eval x = .slice (some ⟨B, 0, none⟩) 1 1)
    (X Y Z : Int) (hB : w.heap[B]? = some (.cells #[.int .i64 X, .int .i64 Y, .int .i64 Z] 67 (0, 0))) (hk : k ≤ 1000) (hbase : base ≤ w.heap.size) (hX9 : (Lit.int .i64 X).wf = true) (hY9 : (Lit.int .i64 Y).wf = true) (hZ9 : (Lit.int .i64 Z).wf = true)
    (h : ∀ g' gc' w', AOwnE w' base (some ⟨g', 0, none⟩) (k + 1) gc' → w.grownBy w' (Value.slice go k gc).ownBlock → ((Value.slice go k gc).ownBlock = some g' ∨ g' = w.heap.size) → K (a.put o.dst (.slice (some ⟨g', 0, none⟩) (k + 1) gc')) w') :
    if Region.wanted o (yielded ops a.tmps) = true then Oper.wp Tryz.prog o a w K Q else E := by
  have hw : Region.wanted o (yielded ops a.tmps) = true := by simp [Region.wanted, hgd]
  rw [if_pos hw]
  exact wp_append_arc s x ho base k gc go hs hown B hx X Y Z hB hk hbase hX9 hY9 hZ9 h
theorem wpList_append_arc {ops : Array Oper} {rest : List Oper} {o : Oper} {a : Act} {w : World} {Q : Exit → Act → World → Prop} (hgd : o.guard = none) (s x : Operand)
    (ho : o.op = .call { callee := .builtin .append, args := #[s, x], argTypes := #[24, 24] }) (base k gc : Nat) (go : Option Addr) (hs : a.eval s = .slice go k gc) (hown : AOwnE w base go k gc) (B : Nat) (hx : a.eval x = .slice (some ⟨B, 0, none⟩) 1 1)
    (X Y Z : Int) (hB : w.heap[B]? = some (.cells #[.int .i64 X, .int .i64 Y, .int .i64 Z] 67 (0, 0))) (hk : k ≤ 1000) (hbase : base ≤ w.heap.size) (hX9 : (Lit.int .i64 X).wf = true) (hY9 : (Lit.int .i64 Y).wf = true) (hZ9 : (Lit.int .i64 Z).wf = true)
    (h : ∀ g' gc' w', AOwnE w' base (some ⟨g', 0, none⟩) (k + 1) gc' → w.grownBy w' (Value.slice go k gc).ownBlock → ((Value.slice go k gc).ownBlock = some g' ∨ g' = w.heap.size) → wpList Tryz.prog ops Q rest (a.put o.dst (.slice (some ⟨g', 0, none⟩) (k + 1) gc')) w') : wpList Tryz.prog ops Q (o :: rest) a w :=
  wpList_plain hgd fun _ hK => wp_append_arc s x ho base k gc go hs hown B hx X Y Z hB hk hbase hX9 hY9 hZ9 fun g' gc' w' h1 h2 h3 => hK _ _ (h g' gc' w' h1 h2 h3)
theorem res_cells {w : World} {rb : Nat} (h : VHas w rb 26 2 (grV 0 (.slice none 0 0))) (p : Int) (v : Value) : (w.setCell ⟨rb, 0, none⟩ (.int .i64 p)).cell? ⟨rb, 0, none⟩ = some (.int .i64 p) ∧ ((w.setCell ⟨rb, 0, none⟩ (.int .i64 p)).setCell ⟨rb, 1, none⟩ v).cell? ⟨rb, 0, none⟩ = some (.int .i64 p) ∧ ((w.setCell ⟨rb, 0, none⟩ (.int .i64 p)).setCell ⟨rb, 1, none⟩ v).cell? ⟨rb, 1, none⟩ = some v :=
  ⟨(h.set 0 (.int .i64 p)).cell (j := 0) (by omega), ((h.set 0 (.int .i64 p)).set 1 v).cell (j := 0) (by omega), ((h.set 0 (.int .i64 p)).set 1 v).cell (j := 1) (by omega)⟩
theorem DS.out {w : World} {base c : Nat} {ao : Option Addr} {n cap rb gb : Nat} {p : Int} {go : Option Addr} {k gc : Nat} {W : World} (h : DS w base c ao n cap rb gb p go k gc W) (hc : (c < rb ∧ rb < gb) ∧ w.heap.size ≤ rb) (v0 v1 : Value) :
    AOwnE ((W.setCell ⟨rb, 0, none⟩ v0).setCell ⟨rb, 1, none⟩ v1) rb go k gc ∧ CurAt ((W.setCell ⟨rb, 0, none⟩ v0).setCell ⟨rb, 1, none⟩ v1) base c ao n cap ∧ w.grownBy ((W.setCell ⟨rb, 0, none⟩ v0).setCell ⟨rb, 1, none⟩ v1) (some c) := by
  have h1 := gr_setCell W rb 0 v0
  have h2 := gr_setCell (W.setCell ⟨rb, 0, none⟩ v0) rb 1 v1
  have hge := h.cur.ge
  refine ⟨((h.own.grown h1 (by omega)).grown h2 (by omega)).from (by omega), (h.cur.grown h1 (by omega) (by omega)).grown h2 (by omega) (by omega), ?_⟩
  exact gr_far (gr_far h.gr h1 (fun g e => by cases e; exact Nat.le_refl _) hc.2) h2 (fun g e => by cases e; exact Nat.le_refl _) hc.2
set_option maxRecDepth 100000 in
set_option maxHeartbeats 4000000 in
theorem l1Draw_any (base c : Nat) (ao : Option Addr) (n cap : Nat) (w : World) (hC : CurAt w base c ao n cap) :
    Calls Tryz.prog 48 #[.pointer (some ⟨c, 0, none⟩)] w fun e w' => ∃ (p : Nat) (go : Option Addr) (k gc : Nat), e = .returned (.agg #[.int .i64 (p : Int), .slice go k gc]) ∧ (1 ≤ p ∧ p ≤ 9) ∧ k ≤ 81 ∧ AOwnE w' w.heap.size go k gc ∧ CurAt w' base c ao n cap ∧ w.grownBy w' (some c) := by
  have hcl := hC.lt
  have hC0 := hC.next ((Below.refl _ w).alloc nl (.cells #[.int .i64 0, .slice none 0 0] 26))
  go_enter Tryz.func48, Tryz.ntmps48
  go_wp2_with fail
  refine (l1Below_any base c ao n cap 9 (by omega) (by omega) _ hC0).mono ?_
  rintro e w1 ⟨x, rfl, hx, hC1, hg1⟩
  have hrb1 := (gr_new w 0 (.slice none 0 0)).grown hg1 (by simp; omega)
  have hs1 := hrb1.lt
  have hD1 : DS w base c ao n cap w.heap.size w1.heap.size ((x + 1 : Nat) : Int) none 0 0 (w1.alloc (.cells #[.int .i64 ((x + 1 : Nat) : Int), .slice none 0 0] 26)) :=
    ⟨hC1.next ((Below.refl _ w1).alloc nl _), gr_new w1 _ _, aown_nil _ _, (fun a e => by cases e), hrb1.alloc _, ((World.grownBy_alloc w _ _).trans hg1).trans (World.grownBy_alloc w1 _ _)⟩
  have hx9 : x + 1 ≤ 9 := by omega
  have hx1 : 1 ≤ x + 1 := by omega
  go_wp2_with fail
  have hp : (1 + (x : Int)) = ((x + 1 : Nat) : Int) := by omega
  rw [hp]
  clear hp
  generalize x + 1 = p at hD1 hx9 hx1 ⊢
  refine (l1Below_any base c ao n cap 5 (by omega) (by omega) _ hD1.cur).mono ?_
  rintro e w2 ⟨y, rfl, hy, hC2, hg2⟩
  have hD2 := hD1.step ⟨hcl, hs1⟩ hC2 hg2
  clear hD1 hC2 hg2 hC1 hg1 hrb1
  obtain ⟨gb, hgb⟩ : ∃ gb, w1.heap.size = gb := ⟨_, rfl⟩
  rw [hgb] at hD2 hs1 ⊢
  clear hgb
  obtain ⟨i0, hi0, hz0, hz1, hz2⟩ := info_parts Tryz.infoArc
  have hgw : w.heap.size ≤ gb := by omega
  go_wp2_with fail
  go_loopw [5] (fun x wr => ∃ (a k gc : Nat) (go : Option Addr), a ≤ p ∧ k ≤ 9 * a ∧ x = .int .i64 a ∧ DS w base c ao n cap w.heap.size gb p go k gc wr) (fun x _ => p - (intOf x).toNat)
  case atStart => exact ⟨0, 0, 0, none, Nat.zero_le _, Nat.zero_le _, rfl, hD2⟩
  case round =>
    clear hD2
    obtain ⟨a, k, gc, go, ha, hk, rfl, hD⟩ := hrel
    have b0 : wr.cell? ⟨gb, 0, none⟩ = some (.int .i64 (p : Int)) := hD.box.cell (j := 0) (by omega)
    have b1 : wr.cell? ⟨gb, 1, none⟩ = some (.slice go k gc) := hD.box.cell (j := 1) (by omega)
    by_cases hlt : a < p
    rotate_left
    · have hap : a = p := by omega
      subst hap
      have r0 : wr.cell? ⟨w.heap.size, 0, none⟩ = some (.int .i64 0) := hD.res.cell (j := 0) (by omega)
      have r1 : wr.cell? ⟨w.heap.size, 1, none⟩ = some (.slice none 0 0) := hD.res.cell (j := 1) (by omega)
      obtain ⟨z0, z1⟩ := hD.res.z2
      obtain ⟨q0, q1, q2⟩ := res_cells hD.res (a : Int) (.slice go k gc)
      obtain ⟨o1, o2, o3⟩ := hD.out ⟨⟨hcl, hs1⟩, Nat.le_refl _⟩ (.int .i64 (a : Int)) (.slice go k gc)
      go_wp2
      simp [bodyPost, results, Tryz.results48, go_sem, q0, q1, q2]
      exact ⟨a, go, k, gc, ⟨rfl, rfl, rfl, rfl⟩, ⟨hx1, hx9⟩, by omega, o1, o2, o3⟩
    have hlt' : (a : Int) < (p : Int) := by omega
    go_wp2
    go_loopw [6] (fun x wr2 => ∃ (b k gc : Nat) (go : Option Addr), b ≤ p ∧ k ≤ 9 * a + b ∧ x = .int .i64 b ∧ DS w base c ao n cap w.heap.size gb p go k gc wr2) (fun x _ => p - (intOf x).toNat)
    case atStart => exact ⟨0, k, gc, go, Nat.zero_le _, by omega, rfl, hD⟩
    case round =>
      clear hD b0 b1 hk k gc go
      obtain ⟨b, k, gc, go, hb, hk, rfl, hD⟩ := hrel
      have b0 : wr.cell? ⟨gb, 0, none⟩ = some (.int .i64 (p : Int)) := hD.box.cell (j := 0) (by omega)
      by_cases hltb : b < p
      rotate_left
      · have hbp : b = p := by omega
        subst hbp
        go_wp2
        go_roundw
        case rel => exact ⟨a + 1, k, gc, go, by omega, by omega, by go_num, hD⟩
        case measure => simp [intOf]; omega
      have hltb' : (b : Int) < (p : Int) := by omega
      by_cases hab : a = b
      · subst hab
        go_wp2
        go_roundw
        case rel => exact ⟨a + 1, k, gc, go, by omega, by omega, by go_num, hD⟩
        case measure => simp [intOf]; omega
      have hab' : ¬ (a : Int) = (b : Int) := by omega
      by_cases hba : b = a + 1
      · subst hba
        clear hab hab' hltb'
        have hltb2 : (a : Int) + 1 < (p : Int) := by omega
        have hab2 : ¬ (a : Int) = (a : Int) + 1 := by omega
        have hab3 : ((a : Int) != (a : Int) + 1) = true := by rw [bne_iff_ne]; omega
        go_wp2_with fail
        refine (l1Once_any base c ao n cap _ (by omega) (by omega) _ hD.cur).mono ?_
        rintro e w9 ⟨bx, rfl, hC9, hg9⟩
        have hD9 := hD.step ⟨hcl, hs1⟩ hC9 hg9
        clear hC9 hg9 hD b0
        cases bx
        · go_wp2_with fail
          refine (l1Once_any base c ao n cap _ (by omega) (by omega) _ hD9.cur).mono ?_
          rintro e w10 ⟨bx, rfl, hC10, hg10⟩
          have hD10 := hD9.step ⟨hcl, hs1⟩ hC10 hg10
          clear hC10 hg10 hD9
          cases bx
          · skip
            have b1 : w10.cell? ⟨gb, 1, none⟩ = some (.slice go k gc) := hD10.box.cell (j := 1) (by omega)
            have hDd := hD10.next (Below.refl _ w10).drew
            clear hD10
            go_wp2
            go_region_law (first | (go_simp; go_at_call 49; refine (l1Below_any base c ao n cap 20 (by omega) (by omega) _ hDd.cur).mono ?_; rintro e w5 ⟨zz, rfl, hzz, hC5, hg5⟩; have hD5 := hDd.step ⟨hcl, hs1⟩ hC5 hg5; have b5 : w5.cell? ⟨gb, 1, none⟩ = some (.slice go k gc) := hD5.box.cell (j := 1) (by omega); have hl5 := hD5.box.lt) | (refine step_append_arc ?_ (.tmp 47) (.tmp 54) ?_ (w.heap.size + 1) k gc go ?_ (hD5.own.next ((Below.refl _ _).alloc nl _)) w5.heap.size ?_ _ _ _ (Go.Deep.blk_alloc_new _ _) (by omega) (by have := hD5.box.lt; simp; omega) (by first | exact wfA (by omega) | exact wf_wrap _) (by first | exact wfA (by omega) | exact wf_wrap _) (by first | exact wfA (by omega) | exact wf_wrap _) ?_; rfl; rfl; rfl; rfl; intro g' gc' w6 hown6 hgrow hr6; have hbx6 := (hD5.box.alloc _).grown hgrow (fun e => (hD5.row e.symm).2 rfl); have hb6 : w6.cell? ⟨gb, 1, none⟩ = some (.slice go k gc) := hbx6.cell (j := 1) (by omega); have hz6 := hbx6.frozen 1))
            all_goals
              have R := (hD5.next ((Below.refl _ _).alloc nl _)).appended ⟨⟨hcl, hs1⟩, Nat.le_refl _⟩ hgrow hown6 hr6
              clear hbx6 hb6 hz6 hD5 hgrow hDd hown6 hC5 hg5
              go_wp2
              go_roundw
              case rel => exact ⟨a + 1 + 1, k + 1, gc', _, by omega, by omega, by go_num, R⟩
              case measure => simp [intOf]; omega
          · go_wp2
            go_roundw
            case rel => exact ⟨a + 1 + 1, k, gc, go, by omega, by omega, by go_num, hD10⟩
            case measure => simp [intOf]; omega
        · skip
          have b1 : w9.cell? ⟨gb, 1, none⟩ = some (.slice go k gc) := hD9.box.cell (j := 1) (by omega)
          have hDd := hD9.next (Below.refl _ w9).drew
          clear hD9
          go_wp2
          go_region_law (first | (go_simp; go_at_call 49; refine (l1Below_any base c ao n cap 20 (by omega) (by omega) _ hDd.cur).mono ?_; rintro e w5 ⟨zz, rfl, hzz, hC5, hg5⟩; have hD5 := hDd.step ⟨hcl, hs1⟩ hC5 hg5; have b5 : w5.cell? ⟨gb, 1, none⟩ = some (.slice go k gc) := hD5.box.cell (j := 1) (by omega); have hl5 := hD5.box.lt) | (refine step_append_arc ?_ (.tmp 47) (.tmp 54) ?_ (w.heap.size + 1) k gc go ?_ (hD5.own.next ((Below.refl _ _).alloc nl _)) w5.heap.size ?_ _ _ _ (Go.Deep.blk_alloc_new _ _) (by omega) (by have := hD5.box.lt; simp; omega) (by first | exact wfA (by omega) | exact wf_wrap _) (by first | exact wfA (by omega) | exact wf_wrap _) (by first | exact wfA (by omega) | exact wf_wrap _) ?_; rfl; rfl; rfl; rfl; intro g' gc' w6 hown6 hgrow hr6; have hbx6 := (hD5.box.alloc _).grown hgrow (fun e => (hD5.row e.symm).2 rfl); have hb6 : w6.cell? ⟨gb, 1, none⟩ = some (.slice go k gc) := hbx6.cell (j := 1) (by omega); have hz6 := hbx6.frozen 1))
          all_goals
            have R := (hD5.next ((Below.refl _ _).alloc nl _)).appended ⟨⟨hcl, hs1⟩, Nat.le_refl _⟩ hgrow hown6 hr6
            clear hbx6 hb6 hz6 hD5 hgrow hDd hown6 hC5 hg5
            go_wp2
            go_roundw
            case rel => exact ⟨a + 1 + 1, k + 1, gc', _, by omega, by omega, by go_num, R⟩
            case measure => simp [intOf]; omega
      · have hba2 : ¬ (b : Int) = (a : Int) + 1 := by omega
        have hab3 : ((a : Int) != (b : Int)) = true := by rw [bne_iff_ne]; omega
        go_wp2_with fail
        refine (l1Once_any base c ao n cap _ (by omega) (by omega) _ hD.cur).mono ?_
        rintro e w9 ⟨bx, rfl, hC9, hg9⟩
        have hD9 := hD.step ⟨hcl, hs1⟩ hC9 hg9
        clear hC9 hg9 hD b0
        cases bx
        · go_wp2
          go_roundw
          case rel => exact ⟨b + 1, k, gc, go, by omega, by omega, by go_num, hD9⟩
          case measure => simp [intOf]; omega
        · skip
          have b1 : w9.cell? ⟨gb, 1, none⟩ = some (.slice go k gc) := hD9.box.cell (j := 1) (by omega)
          have hDd := hD9.next (Below.refl _ w9).drew
          clear hD9
          go_wp2
          go_region_law (first | (go_simp; go_at_call 49; refine (l1Below_any base c ao n cap 20 (by omega) (by omega) _ hDd.cur).mono ?_; rintro e w5 ⟨zz, rfl, hzz, hC5, hg5⟩; have hD5 := hDd.step ⟨hcl, hs1⟩ hC5 hg5; have b5 : w5.cell? ⟨gb, 1, none⟩ = some (.slice go k gc) := hD5.box.cell (j := 1) (by omega); have hl5 := hD5.box.lt) | (refine step_append_arc ?_ (.tmp 47) (.tmp 54) ?_ (w.heap.size + 1) k gc go ?_ (hD5.own.next ((Below.refl _ _).alloc nl _)) w5.heap.size ?_ _ _ _ (Go.Deep.blk_alloc_new _ _) (by omega) (by have := hD5.box.lt; simp; omega) (by first | exact wfA (by omega) | exact wf_wrap _) (by first | exact wfA (by omega) | exact wf_wrap _) (by first | exact wfA (by omega) | exact wf_wrap _) ?_; rfl; rfl; rfl; rfl; intro g' gc' w6 hown6 hgrow hr6; have hbx6 := (hD5.box.alloc _).grown hgrow (fun e => (hD5.row e.symm).2 rfl); have hb6 : w6.cell? ⟨gb, 1, none⟩ = some (.slice go k gc) := hbx6.cell (j := 1) (by omega); have hz6 := hbx6.frozen 1))
          all_goals
            have R := (hD5.next ((Below.refl _ _).alloc nl _)).appended ⟨⟨hcl, hs1⟩, Nat.le_refl _⟩ hgrow hown6 hr6
            clear hbx6 hb6 hz6 hD5 hgrow hDd hown6 hC5 hg5
            go_wp2
            go_roundw
            case rel => exact ⟨b + 1, k + 1, gc', _, by omega, by omega, by go_num, R⟩
            case measure => simp [intOf]; omega
theorem Row.otherB {w w' : World} {ao : Option Addr} {n : Nat} {F T G : Nat → Int} {row : Option Nat} (h : Row w ao n F T G) (hg : w.grownBy w' row) (hB : ∀ a, ao = some a → 0 < n → some a.block ≠ row) : Row w' ao n F T G := fun k hk => by
  obtain ⟨b', o, e, c0, c1, c2⟩ := h k hk
  have hne := hB _ e (by omega)
  exact ⟨b', o, e, hg.cell c0 hne, hg.cell c1 hne, hg.cell c2 hne⟩
theorem IRow.other {w w' : World} {ao : Option Addr} {n : Nat} {f : Nat → Int} {row : Option Nat} (h : IRow w ao n f) (hg : w.grownBy w' row) (hB : ∀ a, ao = some a → 0 < n → some a.block ≠ row) : IRow w' ao n f := fun k hk => by
  obtain ⟨b', o, e, c0⟩ := h k hk
  have hne := hB _ e (by omega)
  exact ⟨b', o, e, hg.cell c0 hne⟩
end
end Go.Proofs.YthmpliljffmmcaaGreatDoor
