/-
  Helpers: FnBig, DrawAs, DrawAn, FnBase, LikeE, LikeH, LikeA, LikeG, LikeS.
-/
import Derived.Test.YthmpliljffmmcaaGreatDoorPack1
import Derived.Test.YthmpliljffmmcaaGreatDoorPack27
import Derived.Test.YthmpliljffmmcaaGreatDoorPack3
import Derived.Deep.QuietTactic
import Derived.Test.YthmpliljffmmcaaGreatDoorPack32
import Derived.Deep.RegionHeld3
import Derived.Test.YthmpliljffmmcaaGreatDoorPack2
import Derived.BigQuiet
import Derived.Test.YthmpliljffmmcaaGreatDoorPack10
import Derived.Test.YthmpliljffmmcaaGreatDoorPack5
set_option linter.unusedVariables false
set_option linter.unusedSimpArgs false
namespace Go.Proofs.YthmpliljffmmcaaGreatDoor
section
open Go.ChangeShapes Go.WideShapes Go.ChangeAt Go.RowKit Go.Deep Go.Joins
attribute [local go_sem ↓] Go.wp_at_zero Go.wp_at_succ
theorem big_any (ao : Option Addr) (n cap : Nat) (hn : n ≤ 9223372036854775807) (w : World) : Calls Tryz.prog 4 #[.slice ao n cap] w fun e w' => e = .returned (.bool (decide (4096 < n))) ∧ w' = w := by
  by_cases h : 4096 < n
  · have h' : 4096 < (n : Int) := by omega
    go_enter Tryz.func4, Tryz.ntmps4
    go_wp2
    go_ret
    exact ⟨ret_bool (by simp [h]), rfl⟩
  · have h' : ¬ 4096 < (n : Int) := by omega
    go_enter Tryz.func4, Tryz.ntmps4
    go_wp2
    go_ret
    exact ⟨ret_bool (by simp [h]), rfl⟩
set_option maxRecDepth 100000 in
theorem open_bytes {H : Type} {enc : TypeId × Value → H} {w : World} {base : Nat} {spare : Nat → Bool} {held : Bool} {fuel : Nat} {cs : List Value} {x : DataW H × List MemPlace}
    (h : DataW.trod enc Tryz.prog w base spare held fuel 22 cs = some x) :
    ∃ (ao : Option Addr) (n cap : Nat), cs = [.slice ao n cap] ∧ n ≤ maxLen ∧ ByRow w w.heap.size ao n := by
  rcases open_slice Tryz.underlying22 h with ⟨rfl, _⟩ | ⟨a, len, cap, m, n, D, Pl, rfl, hb, hl, hm, hmm, _, hx⟩
  · exact ⟨none, 0, 0, rfl, Nat.zero_le _, fun k hk => by omega⟩
  have hlm : len ≤ m := by rw [hmm]; split <;> omega
  have cells8 : Tryz.prog.cellsOf 5 = 1 := by kernel_rfl
  have each : ∀ i, i < len → ∃ q : Int, w.cell? (a.add i) = some (.int .u8 q) ∧ (Lit.int .u8 q).wf = true := by
    intro i hi
    obtain ⟨cs', h1, h2⟩ := hx i (by omega)
    rw [cells8] at h1
    obtain ⟨_, hlen, hcell⟩ := World.cells?_some h1
    match cs', hlen with
    | [v0], _ =>
      obtain ⟨q0, r0, _, f0⟩ := DataW.trod_int Tryz.underlying5 h2
      have e0 := hcell 0 (by omega)
      rw [add_add] at e0
      simp at r0
      subst r0
      exact ⟨q0, by simpa using e0, f0⟩
  refine ⟨some a, len, cap, rfl, by omega, fun k hk => ?_⟩
  obtain ⟨q, hq, hwf⟩ := each k hk
  obtain ⟨b, o, spot⟩ := a
  have hspot : spot = none := by
    obtain ⟨_, hq0, _⟩ := each 0 (by omega)
    have := World.cell?_spot hq0
    simpa [Addr.add] using this
  subst hspot
  rw [Addr.add_mid] at hq
  have h8 : 0 ≤ q ∧ q ≤ 255 := by
    have h1 : IntKind.min .u8 = 0 := by decide
    have h2 : IntKind.max .u8 = 255 := by decide
    simp only [Lit.wf, h1, h2, Bool.and_eq_true, decide_eq_true_eq] at hwf
    exact hwf
  exact ⟨b, o, q, rfl, lt_of_cell hq, hq, h8.1, h8.2⟩
theorem ByRow.up {w W : World} {ao : Option Addr} {n : Nat} (h : ByRow w w.heap.size ao n) (hb : Below w.heap.size w W) : ByRow W W.heap.size ao n := fun k hk => by
  obtain ⟨b, o, v, e, hlt, hc, hv⟩ := (h.below hb nl) k hk
  exact ⟨b, o, v, e, Nat.lt_of_lt_of_le hlt hb.size, hc, hv⟩
end
section
open Go.RowKit Go.Maps Go.Deep Go.Joins
attribute [local go_sem ↓] Go.wp_at_zero Go.wp_at_succ
theorem SvM.grT {w w' : World} {ao : Option Addr} {n : Nat} {po : Option Addr} {k : Nat} {eo : Option Addr} {m : Nat} {so : Option Addr} {t : Nat} {F T G P L H : Nat → Int} {S : Nat → ByteArray} (h : SvM w ao n po k eo m so t F T G P L H S) {x : Nat} (hg : w.grownBy w' (some x)) (hx : Typed w x 35) : SvM w' ao n po k eo m so t F T G P L H S :=
  have hx : ∀ y, some x = some y → Typed w y 35 := fun y e => by cases e; exact hx
  ⟨h.a.gr hg hx (by decide), h.i.gr hg hx (by decide), h.e.gr hg hx (by decide), h.s.gr hg hx (by decide), h.wf, h.hn, h.hk, h.hm⟩
def DrawnAs (w : World) (e : Ending) (w' : World) : Prop := ∃ p2 ao n cap po k2 pc eo m ec V so t sc K xo x xc a b, e = .returned (.tuple #[.agg #[.int .i64 p2, .slice ao n cap, .slice po k2 pc, .slice eo m ec, .int .i64 V, .slice so t sc], .agg #[.int .i64 K, .slice xo x xc, .int .i64 a, .int .i64 b]]) ∧ (t ≤ 15 ∧ x ≤ 300) ∧ (∃ F T G P L H S, SvM w' ao n po k2 eo m so t F T G P L H S) ∧ (∃ A B C : Nat → Int, RowT w' 67 xo (x * 3) (fun j => Value.int .i64 (ar A B C j))) ∧ Below w.heap.size w w'
set_option maxRecDepth 100000 in
set_option maxHeartbeats 4000000 in
theorem drawApply_any (bo : Option Addr) (bn bc : Nat) (hbn : bn ≤ 4096) (w : World) (hr : ByRow w w.heap.size bo bn) :
    Calls Tryz.prog 5 #[.slice bo bn bc] w fun e w' => DrawnAs w e w' := by
  have hal : Below w.heap.size w ((w.alloc (.cells #[.int .i64 0, .slice none 0 0, .slice none 0 0, .slice none 0 0, .int .i64 0, .slice none 0 0] 33)).alloc (.cells #[.int .i64 0, .slice none 0 0, .int .i64 0, .int .i64 0] 35)) := ((Below.refl _ _).alloc nl _).alloc (by simp) _
  have v0 := (sv6_new w 0 (.slice none 0 0) (.slice none 0 0) (.slice none 0 0) 0 (.slice none 0 0) 33).alloc (.cells #[.int .i64 0, .slice none 0 0, .int .i64 0, .int .i64 0] 35)
  have v1 := c4_new (w.alloc (.cells #[.int .i64 0, .slice none 0 0, .slice none 0 0, .slice none 0 0, .int .i64 0, .slice none 0 0] 33)) (.int .i64 0) (.slice none 0 0) (.int .i64 0) (.int .i64 0) 35
  rw [World.size_alloc] at v1
  have hr0 := hr.up hal
  have hs0 : ((w.alloc (.cells #[.int .i64 0, .slice none 0 0, .slice none 0 0, .slice none 0 0, .int .i64 0, .slice none 0 0] 33)).alloc (.cells #[.int .i64 0, .slice none 0 0, .int .i64 0, .int .i64 0] 35)).heap.size = w.heap.size + 2 := by simp
  go_enter Tryz.func5, Tryz.ntmps5
  go_wp2_with fail
  generalize ((w.alloc (.cells #[.int .i64 0, .slice none 0 0, .slice none 0 0, .slice none 0 0, .int .i64 0, .slice none 0 0] 33)).alloc (.cells #[.int .i64 0, .slice none 0 0, .int .i64 0, .int .i64 0] 35)) = W0 at hal v0 v1 hr0 hs0 ⊢
  refine (l1New_any bo bn bc hbn _ hr0).mono ?_
  rintro e w1 ⟨c, rfl, hC1, hb1⟩
  have hcg := hC1.ge
  have hcl1 := hC1.lt
  replace v0 := v0.next hb1
  replace v1 := v1.next hb1
  replace hal := below_next hal nl hb1
  clear hb1 hr0
  go_wp2_with fail
  refine (l8DrawService_any _ c bo bn bc _ hC1).mono ?_
  rintro e w2 ⟨p2, ao, n, cap, po, k2, pc, eo, m, ec, V, so, t, sc, rfl, ht, ⟨F, T, G, P, L, H, S, hM⟩, hC2, hg2⟩
  replace v0 := v0.grown hg2 (by simp; omega)
  replace v1 := v1.grown hg2 (by simp; omega)
  replace hal : Below w.heap.size w w2 := hal.trans (gr_below hg2 (by omega) hal.size)
  have hs2 := hg2.size
  have hal2 := (Below.refl w2.heap.size w2).alloc nl (.cells #[.int .i64 p2, .slice ao n cap, .slice po k2 pc, .slice eo m ec, .int .i64 V, .slice so t sc] 33)
  have vS := sv6_new w2 p2 (.slice ao n cap) (.slice po k2 pc) (.slice eo m ec) V (.slice so t sc) 33
  replace v0 := v0.next hal2
  replace v1 := v1.next hal2
  replace hal := below_next hal nl hal2
  replace hM := hM.next hal2
  replace hC2 := hC2.next hal2
  clear hg2 hal2 hC1
  go_wp2_with fail
  generalize (w2.alloc (.cells #[.int .i64 p2, .slice ao n cap, .slice po k2 pc, .slice eo m ec, .int .i64 V, .slice so t sc] 33)) = W2 at hal v0 v1 vS hM hC2 ⊢
  generalize hsb : w2.heap.size = sb at vS hs2 ⊢
  have hd := (Below.refl W2.heap.size W2).drew
  replace vS := vS.next hd
  replace v0 := v0.next hd
  replace v1 := v1.next hd
  replace hM := hM.next hd
  replace hC2 := hC2.next hd
  replace hal := below_next hal nl hd
  refine wp_region_held_drew (S := fun W => VHas W sb 33 6 (sv6 p2 (.slice ao n cap) (.slice po k2 pc) (.slice eo m ec) V (.slice so t sc))) (by kernel_rfl) vS (fun hS => ?_)
  generalize W2.drew = W3 at hal v0 v1 vS hM hC2 hS ⊢
  clear hd hsb
  refine tK 0 (some 10) (.agg #[.int .i64 p2, .slice ao n cap, .slice po k2 pc, .slice eo m ec, .int .i64 V, .slice so t sc]) rfl rfl hS (fun w hSw => by obtain ⟨y0, y1, y2, y3, y4, y5⟩ := hSw.c6; simp [sv6] at y0 y1 y2 y3 y4 y5; go_split_ands; go_simp <;> first | rfl | omega | (intro h; exfalso; omega)) ?_
  simp only [pS]
  refine tK 1 (some 11) (.pointer (some ⟨c, 0, none⟩)) rfl rfl hS (fun w hSw => by obtain ⟨y0, y1, y2, y3, y4, y5⟩ := hSw.c6; simp [sv6] at y0 y1 y2 y3 y4 y5; go_split_ands; go_simp <;> first | rfl | omega | (intro h; exfalso; omega)) ?_
  simp only [pS]
  refine tK 2 (some 12) (.pointer (some ⟨sb, 0, none⟩)) rfl rfl hS (fun w hSw => by obtain ⟨y0, y1, y2, y3, y4, y5⟩ := hSw.c6; simp [sv6] at y0 y1 y2 y3 y4 y5; go_split_ands; go_simp <;> first | rfl | omega | (intro h; exfalso; omega)) ?_
  simp only [pS]
  refine tK 3 (some 13) (.agg #[.int .i64 p2, .slice ao n cap]) rfl rfl hS (fun w hSw => by obtain ⟨y0, y1, y2, y3, y4, y5⟩ := hSw.c6; simp [sv6] at y0 y1 y2 y3 y4 y5; go_split_ands; go_simp <;> first | rfl | omega | (intro h; exfalso; omega)) ?_
  simp only [pS]
  refine step1H 4 _ rfl (by kernel_rfl) (by rfl) ?_
  go_simp
  refine (l8DrawAny_any _ c bo bn bc p2 ao n cap hM.hn _ hC2 (hM.arcsE hC2.typed)).mono ?_
  rintro e w5 ⟨K, xo, x, xc, a, b, rfl, hK, hx, hO, hC5, hg5⟩
  obtain ⟨A, B, C, hA5, _⟩ := hO.rowT
  replace hM := hM.gr hg5 hC2.typed
  replace v0 := v0.grown hg5 (by simp; omega)
  replace v1 := v1.grown hg5 (by simp; omega)
  replace hal : Below w.heap.size w w5 := hal.trans (gr_below hg5 (by omega) hal.size)
  replace hS := VHas.grown hS hg5 (by simp; omega)
  clear vS hO
  refine ⟨hS, ?_⟩
  refine step1H 5 _ rfl (by kernel_rfl) (by rfl) ?_
  refine wp_store_box 33 _ _ rfl w.heap.size [.int .i64 p2, .slice ao n cap, .slice po k2 pc, .slice eo m ec, .int .i64 V, .slice so t sc] (by simp [go_sem]) (by simp [go_sem]) v0 (by kernel_rfl) (by intro v hv; simp at hv; rcases hv with rfl | rfl | rfl | rfl | rfl | rfl <;> rfl) ?_
  intro W6 hv6 hg6
  replace hM := hM.grS hg6 v0.typed
  replace v1 := v1.grown hg6 (by simp)
  replace hA5 := hA5.gr hg6 (fun y e => by cases e; exact v0.typed) (by decide)
  have hal6 : Below w.heap.size w W6 := hal.trans (gr_below hg6 (by omega) hal.size)
  replace hS := VHas.grown hS hg6 (by simp; omega)
  refine ⟨hS, ?_⟩
  refine step1H 6 _ rfl (by kernel_rfl) (by rfl) ?_
  refine wp_store_box 35 _ _ rfl (w.heap.size + 1) [.int .i64 K, .slice xo x xc, .int .i64 a, .int .i64 b] (by simp [go_sem]) (by simp [go_sem]) v1 (by kernel_rfl) (by intro v hv; simp at hv; rcases hv with rfl | rfl | rfl | rfl <;> rfl) ?_
  intro W7 hv7 hg7
  replace hM := hM.grT hg7 v1.typed
  replace hv6 := hv6.grown hg7 (by simp)
  replace hA5 := hA5.gr hg7 (fun y e => by cases e; exact v1.typed) (by decide)
  have hal7 : Below w.heap.size w W7 := hal6.trans (gr_below hg7 (by omega) hal6.size)
  replace hS := VHas.grown hS hg7 (by simp; omega)
  refine ⟨hS, ?_⟩
  refine wpAnyH_done (by kernel_rfl) ?_ _
  have q0 := hv6.cell (j := 0) (by simp)
  have q1 := hv6.cell (j := 1) (by simp)
  have q2 := hv6.cell (j := 2) (by simp)
  have q3 := hv6.cell (j := 3) (by simp)
  have q4 := hv6.cell (j := 4) (by simp)
  have q5 := hv6.cell (j := 5) (by simp)
  have u0 := hv7.cell (j := 0) (by simp)
  have u1 := hv7.cell (j := 1) (by simp)
  have u2 := hv7.cell (j := 2) (by simp)
  have u3 := hv7.cell (j := 3) (by simp)
  simp [lf] at q0 q1 q2 q3 q4 q5 u0 u1 u2 u3
  clear hv6 hv7 hS v0 v1 hC5 hC2 hal hal6 hg5 hg6 hg7
  go_wp2
  exact bodyPost_ret (v := .tuple #[.agg #[.int .i64 p2, .slice ao n cap, .slice po k2 pc, .slice eo m ec, .int .i64 V, .slice so t sc], .agg #[.int .i64 K, .slice xo x xc, .int .i64 a, .int .i64 b]]) (by simp [results, Tryz.results5, go_sem, q0, q1, q2, q3, q4, q5, u0, u1, u2, u3]) rfl ⟨p2, ao, n, cap, po, k2, pc, eo, m, ec, V, so, t, sc, K, xo, x, xc, a, b, rfl, ⟨ht, hx⟩, ⟨F, T, G, P, L, H, S, hM⟩, ⟨A, B, C, hA5⟩, hal7⟩
def DrawnAn (w : World) (e : Ending) (w' : World) : Prop := ∃ (p : Int) (go : Option Addr) (k gc : Nat) (a b : Int), e = .returned (.tuple #[.agg #[.int .i64 p, .slice go k gc], .int .i64 a, .int .i64 b]) ∧ k ≤ 200 ∧ (∃ F T G : Nat → Int, Row w' go k F T G) ∧ Below w.heap.size w w'
set_option maxRecDepth 100000 in
set_option maxHeartbeats 4000000 in
theorem drawAnswer_any (bo : Option Addr) (bn bc : Nat) (hbn : bn ≤ 4096) (w : World) (hr : ByRow w w.heap.size bo bn) :
    Calls Tryz.prog 13 #[.slice bo bn bc] w fun e w' => DrawnAn w e w' := by
  have hal : Below w.heap.size w (w.alloc (.cells #[.int .i64 0, .slice none 0 0] 26)) := (Below.refl _ _).alloc nl _
  have v0 := gb2_new w 0 (.slice none 0 0) 26
  have hr0 := hr.up hal
  have hs0 : (w.alloc (.cells #[.int .i64 0, .slice none 0 0] 26)).heap.size = w.heap.size + 1 := by simp
  go_enter Tryz.func13, Tryz.ntmps13
  go_wp2_with fail
  generalize (w.alloc (.cells #[.int .i64 0, .slice none 0 0] 26)) = W0 at hal v0 hr0 hs0 ⊢
  refine (l1New_any bo bn bc hbn _ hr0).mono ?_
  rintro e w1 ⟨c, rfl, hC1, hb1⟩
  have hcg := hC1.ge
  have hcl1 := hC1.lt
  replace v0 := v0.next hb1
  replace hal := below_next hal nl hb1
  clear hb1 hr0
  go_wp2_with fail
  refine (l1DrawAny_any _ c bo bn bc _ hC1).mono ?_
  rintro e w2 ⟨p, go, k, gc, rfl, hk, hO, hC2, hg2⟩
  replace v0 := v0.grown hg2 (by simp; omega)
  replace hal : Below w.heap.size w w2 := hal.trans (gr_below hg2 (by omega) hal.size)
  have hs2 := hg2.size
  obtain ⟨F, T, G, hM, _⟩ := hO.rowT
  have hal2 := (Below.refl w2.heap.size w2).alloc nl (.cells #[.int .i64 p, .slice go k gc] 26)
  have vS := gb2_new w2 p (.slice go k gc) 26
  replace v0 := v0.next hal2
  replace hal := below_next hal nl hal2
  replace hM := hM.next hal2
  replace hC2 := hC2.next hal2
  clear hg2 hal2 hC1 hO
  go_wp2_with fail
  generalize (w2.alloc (.cells #[.int .i64 p, .slice go k gc] 26)) = W2 at hal v0 vS hM hC2 ⊢
  generalize hsb : w2.heap.size = sb at vS hs2 ⊢
  refine (l1DrawPlace_any _ c bo bn bc _ hC2).mono ?_
  rintro e w4 ⟨a, rfl, hC4, hg4⟩
  replace v0 := v0.grown hg4 (by simp; omega)
  replace vS := vS.grown hg4 (by simp; omega)
  replace hal : Below w.heap.size w w4 := hal.trans (gr_below hg4 (by omega) hal.size)
  replace hM := hM.gr hg4 (fun y e => by cases e; exact hC2.typed) (by decide)
  clear hC2 hg4 hsb
  go_wp2_with fail
  have hd := (Below.refl w4.heap.size w4).drew
  replace vS := vS.next hd
  replace v0 := v0.next hd
  replace hM := hM.next hd
  replace hC4 := hC4.next hd
  replace hal := below_next hal nl hd
  refine wp_region_held_drew (S := fun W => VHas W sb 26 2 (gb2 p (.slice go k gc))) (by kernel_rfl) vS (fun hS => ?_)
  generalize w4.drew = W3 at hal v0 vS hM hC4 hS ⊢
  clear hd
  refine tK 0 (some 14) (.agg #[.int .i64 p, .slice go k gc]) rfl rfl hS (fun w hSw => by obtain ⟨y0, y1⟩ := hSw.c2; simp [gb2] at y0 y1; go_split_ands; go_simp <;> first | rfl | omega | (intro h; exfalso; omega)) ?_
  simp only [pS]
  refine tK 1 (some 15) (.int .i64 a) rfl rfl hS (fun w hSw => by obtain ⟨y0, y1⟩ := hSw.c2; simp [gb2] at y0 y1; go_split_ands; go_simp <;> first | rfl | omega | (intro h; exfalso; omega)) ?_
  simp only [pS]
  refine tK 2 (some 16) (.pointer (some ⟨c, 0, none⟩)) rfl rfl hS (fun w hSw => by obtain ⟨y0, y1⟩ := hSw.c2; simp [gb2] at y0 y1; go_split_ands; go_simp <;> first | rfl | omega | (intro h; exfalso; omega)) ?_
  simp only [pS]
  refine step1H 3 _ rfl (by kernel_rfl) (by rfl) ?_
  go_simp
  refine (l1DrawPlace_any _ c bo bn bc _ hC4).mono ?_
  rintro e w5 ⟨b, rfl, hC5, hg5⟩
  replace hM := hM.gr hg5 (fun y e => by cases e; exact hC4.typed) (by decide)
  replace v0 := v0.grown hg5 (by simp; omega)
  replace hal : Below w.heap.size w w5 := hal.trans (gr_below hg5 (by omega) hal.size)
  replace hS := VHas.grown hS hg5 (by simp; omega)
  clear vS
  refine ⟨hS, ?_⟩
  refine step1H 4 _ rfl (by kernel_rfl) (by rfl) ?_
  refine wp_store_box 26 _ _ rfl w.heap.size [.int .i64 p, .slice go k gc] (by simp [go_sem]) (by simp [go_sem]) v0 (by kernel_rfl) (by intro v hv; simp at hv; rcases hv with rfl | rfl <;> rfl) ?_
  intro W6 hv6 hg6
  replace hM := hM.gr hg6 (fun y e => by cases e; exact v0.typed) (by decide)
  have hal6 : Below w.heap.size w W6 := hal.trans (gr_below hg6 (by omega) hal.size)
  replace hS := VHas.grown hS hg6 (by simp; omega)
  refine ⟨hS, ?_⟩
  refine tK 5 (some 3) (.int .i64 a) rfl rfl hS (fun w hSw => by obtain ⟨y0, y1⟩ := hSw.c2; simp [gb2] at y0 y1; go_split_ands; go_simp <;> first | rfl | omega | (intro h; exfalso; omega)) ?_
  simp only [pS]
  refine tK 6 (some 4) (.int .i64 b) rfl rfl hS (fun w hSw => by obtain ⟨y0, y1⟩ := hSw.c2; simp [gb2] at y0 y1; go_split_ands; go_simp <;> first | rfl | omega | (intro h; exfalso; omega)) ?_
  simp only [pS]
  refine wpAnyH_done (by kernel_rfl) ?_ _
  have q0 := hv6.cell (j := 0) (by simp)
  have q1 := hv6.cell (j := 1) (by simp)
  simp [lf] at q0 q1
  clear hv6 hS v0 hC5 hC4 hal hg5 hg6
  go_wp2
  exact bodyPost_ret (v := .tuple #[.agg #[.int .i64 p, .slice go k gc], .int .i64 a, .int .i64 b]) (by simp [results, Tryz.results13, go_sem, q0, q1]) rfl ⟨p, go, k, gc, a, b, rfl, hk, ⟨F, T, G, hM.arcs⟩, hal6⟩
end
section
open Go.ChangeShapes Go.WideShapes Go.ChangeAt Go.RowKit Go.Deep Go.Joins
attribute [local go_sem ↓] Go.wp_at_zero Go.wp_at_succ
set_option maxHeartbeats 800000 in
theorem likeInts_same (ao ao' : Option Addr) (n cap cap' : Nat) (f : Nat → Int) (hn : n ≤ 1048576) (w : World) (hr : IRow w ao n f) (hr' : IRow w ao' n f) :
    Calls Tryz.prog 56 #[.slice ao n cap, .slice ao' n cap'] w fun e w' => e = .returned (.bool true) ∧ Below w.heap.size w w' := by
  go_enter Tryz.func56, Tryz.ntmps56
  go_wp2
  go_loopw [5] (fun i wr => ∃ k : Nat, k ≤ n ∧ i = .int .i64 k ∧ Below w.heap.size w wr) (fun i _ => n - (intOf i).toNat)
  case atStart => exact ⟨0, Nat.zero_le _, rfl, Below.refl _ _⟩
  case round =>
    obtain ⟨k, hk, rfl, hbel⟩ := hrel
    by_cases hlt : k < n
    rotate_left
    · have hkn : k = n := by omega
      subst hkn
      go_wp2
      go_ret
      exact ⟨rfl, hbel⟩
    obtain ⟨b, o, hao, c0⟩ := (hr.below hbel nl) k hlt
    obtain ⟨b', o', hao', d0⟩ := (hr'.below hbel nl) k hlt
    subst hao
    subst hao'
    have hk1 : (0 : Int) ≤ (k : Int) := by omega
    have hk2 : (k : Int) < (n : Int) := by omega
    go_wp2
    go_quiet (fail)
    go_wp2
    go_roundw
    case rel => exact ⟨k + 1, by omega, by go_num, below_drewN hbel _⟩
    case measure => simp [intOf]; omega
end
section
open Go.RowKit
attribute [local go_sem ↓] Go.wp_at_zero Go.wp_at_succ
set_option maxHeartbeats 800000 in
theorem likeEdges_same (ao ao' : Option Addr) (n cap cap' : Nat) (L H : Nat → Int) (hn : n ≤ 1048576) (w : World) (hr : ERow w ao n L H) (hr' : ERow w ao' n L H) :
    Calls Tryz.prog 57 #[.slice ao n cap, .slice ao' n cap'] w fun e w' => e = .returned (.bool true) ∧ Below w.heap.size w w' := by
  go_enter Tryz.func57, Tryz.ntmps57
  go_wp2
  go_loopw [5] (fun i wr => ∃ k : Nat, k ≤ n ∧ i = .int .i64 k ∧ Below w.heap.size w wr) (fun i _ => n - (intOf i).toNat)
  case atStart => exact ⟨0, Nat.zero_le _, rfl, Below.refl _ _⟩
  case round =>
    obtain ⟨k, hk, rfl, hbel⟩ := hrel
    by_cases hlt : k < n
    rotate_left
    · have hkn : k = n := by omega
      subst hkn
      go_wp2
      go_ret
      exact ⟨rfl, hbel⟩
    obtain ⟨b, o, hao, c0, c1⟩ := (hr.below hbel nl) k hlt
    obtain ⟨b', o', hao', d0, d1⟩ := (hr'.below hbel nl) k hlt
    subst hao
    subst hao'
    have hk1 : (0 : Int) ≤ (k : Int) := by omega
    have hk2 : (k : Int) < (n : Int) := by omega
    go_wp2
    go_quiet (fail)
    go_wp2
    go_roundw
    case rel => exact ⟨k + 1, by omega, by go_num, below_drewN hbel _⟩
    case measure => simp [intOf]; omega
set_option maxHeartbeats 1000000 in
theorem likeHier_same (ao bo co dO : Option Addr) (n m a b c d : Nat) (f L H : Nat → Int) (hn : n ≤ 1048576) (hm : m ≤ 1048576) (w : World) (h1 : IRow w ao n f) (h2 : ERow w bo m L H) (h3 : IRow w co n f) (h4 : ERow w dO m L H) :
    Calls Tryz.prog 26 #[.agg #[.slice ao n a, .slice bo m b], .agg #[.slice co n c, .slice dO m d]] w fun e w' => e = .returned (.bool true) ∧ Below w.heap.size w w' := by
  have hB0 : Below w.heap.size w ((w.alloc (.cells #[.slice ao n a, .slice bo m b] 30)).alloc (.cells #[.slice co n c, .slice dO m d] 30)) := ((Below.refl _ w).alloc nl _).alloc (by simp) _
  have q1 : ((w.alloc (.cells #[.slice ao n a, .slice bo m b] 30)).alloc (.cells #[.slice co n c, .slice dO m d] 30)).cell? ⟨w.heap.size, 1, none⟩ = some (.slice bo m b) := by simp [go_sem]
  have q3 : ((w.alloc (.cells #[.slice ao n a, .slice bo m b] 30)).alloc (.cells #[.slice co n c, .slice dO m d] 30)).cell? ⟨w.heap.size + 1, 1, none⟩ = some (.slice dO m d) := by simp [go_sem]
  go_enter Tryz.func26, Tryz.ntmps26
  go_wp2_with fail
  refine (likeInts_same ao co n a c f hn _ (h1.below hB0 nl) (h3.below hB0 nl)).mono ?_
  rintro e w1 ⟨rfl, hb1⟩
  replace q1 := keep_cell hb1 nl q1
  replace q3 := keep_cell hb1 nl q3
  have hB1 := below_next hB0 nl hb1
  go_wp2_with fail
  refine (likeEdges_same bo dO m b d L H hm _ (h2.below hB1 nl) (h4.below hB1 nl)).mono ?_
  rintro e w2 ⟨rfl, hb2⟩
  go_wp2
  go_ret
  exact ⟨rfl, below_next hB1 nl hb2⟩
set_option maxHeartbeats 800000 in
theorem likeArcs_same (ao ao' : Option Addr) (n cap cap' : Nat) (F T G : Nat → Int) (hn : n ≤ 1048576) (w : World) (hr : Row w ao n F T G) (hr' : Row w ao' n F T G) :
    Calls Tryz.prog 47 #[.slice ao n cap, .slice ao' n cap'] w fun e w' => e = .returned (.bool true) ∧ Below w.heap.size w w' := by
  go_enter Tryz.func47, Tryz.ntmps47
  go_wp2
  go_loopw [5] (fun i wr => ∃ k : Nat, k ≤ n ∧ i = .int .i64 k ∧ Below w.heap.size w wr) (fun i _ => n - (intOf i).toNat)
  case atStart => exact ⟨0, Nat.zero_le _, rfl, Below.refl _ _⟩
  case round =>
    obtain ⟨k, hk, rfl, hbel⟩ := hrel
    by_cases hlt : k < n
    rotate_left
    · have hkn : k = n := by omega
      subst hkn
      go_wp2
      go_ret
      exact ⟨rfl, hbel⟩
    obtain ⟨b, o, hao, c0, c1, c2⟩ := (hr.below hbel nl) k hlt
    obtain ⟨b', o', hao', d0, d1, d2⟩ := (hr'.below hbel nl) k hlt
    subst hao
    subst hao'
    have hk1 : (0 : Int) ≤ (k : Int) := by omega
    have hk2 : (k : Int) < (n : Int) := by omega
    go_wp2
    go_quiet (fail)
    go_wp2
    go_roundw
    case rel => exact ⟨k + 1, by omega, by go_num, below_drewN hbel _⟩
    case measure => simp [intOf]; omega
end
section
open Go.ChangeShapes Go.WideShapes Go.ChangeAt Go.RowKit Go.Deep Go.Joins
attribute [local go_sem ↓] Go.wp_at_zero Go.wp_at_succ
set_option maxHeartbeats 800000 in
theorem likeGraph_same (p : Int) (ao ao' : Option Addr) (n cap cap' : Nat) (F T G : Nat → Int) (hn : n ≤ 1048576) (w : World) (hr : Row w ao n F T G) (hr' : Row w ao' n F T G) :
    Calls Tryz.prog 18 #[.agg #[.int .i64 p, .slice ao n cap], .agg #[.int .i64 p, .slice ao' n cap']] w fun e w' => e = .returned (.bool true) ∧ Below w.heap.size w w' := by
  have hA : Below w.heap.size w ((w.alloc (.cells #[.int .i64 p, .slice ao n cap] 26)).alloc (.cells #[.int .i64 p, .slice ao' n cap'] 26)) := ((Below.refl _ _).alloc nl _).alloc (by simp) _
  have h1 := hr.below hA nl
  have h2 := hr'.below hA nl
  go_enter Tryz.func18, Tryz.ntmps18
  go_wp2_with (go_at_call 47; refine (likeArcs_same ao ao' n cap cap' F T G hn _ h1 h2).mono ?_; rintro e w3 ⟨rfl, hb3⟩)
  go_ret
  exact ⟨rfl, below_next hA nl hb3⟩
end
section
open Go.RowKit
attribute [local go_sem ↓] Go.wp_at_zero Go.wp_at_succ
set_option maxHeartbeats 800000 in
theorem likeTexts_same (ao ao' : Option Addr) (n cap cap' : Nat) (S : Nat → ByteArray) (hn : n ≤ 1048576) (w : World) (hr : SRow w ao n S) (hr' : SRow w ao' n S) :
    Calls Tryz.prog 27 #[.slice ao n cap, .slice ao' n cap'] w fun e w' => e = .returned (.bool true) ∧ Below w.heap.size w w' := by
  go_enter Tryz.func27, Tryz.ntmps27
  go_wp2
  go_loopw [5] (fun i wr => ∃ k : Nat, k ≤ n ∧ i = .int .i64 k ∧ Below w.heap.size w wr) (fun i _ => n - (intOf i).toNat)
  case atStart => exact ⟨0, Nat.zero_le _, rfl, Below.refl _ _⟩
  case round =>
    obtain ⟨k, hk, rfl, hbel⟩ := hrel
    by_cases hlt : k < n
    rotate_left
    · have hkn : k = n := by omega
      subst hkn
      go_wp2
      go_ret
      exact ⟨rfl, hbel⟩
    obtain ⟨b, o, hao, c0⟩ := (hr.below hbel nl) k hlt
    obtain ⟨b', o', hao', d0⟩ := (hr'.below hbel nl) k hlt
    subst hao
    subst hao'
    have hk1 : (0 : Int) ≤ (k : Int) := by omega
    have hk2 : (k : Int) < (n : Int) := by omega
    go_wp2
    go_quiet (fail)
    go_wp2
    go_roundw
    case rel => exact ⟨k + 1, by omega, by go_num, below_drewN hbel _⟩
    case measure => simp [intOf]; omega
set_option maxRecDepth 100000 in
set_option maxHeartbeats 4000000 in
theorem likeService_same (p : Int) (ao : Option Addr) (n a1 : Nat) (F T G : Nat → Int) (po : Option Addr) (k p1 : Nat) (P : Nat → Int) (eo : Option Addr) (m e1 : Nat) (L H : Nat → Int) (V : Int) (so : Option Addr) (t s1 : Nat) (S : Nat → ByteArray) (ao' : Option Addr) (a2 : Nat) (po' : Option Addr) (p2 : Nat) (eo' : Option Addr) (e2 : Nat) (so' : Option Addr) (s2 : Nat)
    (hn : n ≤ 1048576) (hk : k ≤ 1048576) (hm : m ≤ 1048576) (ht : t ≤ 1048576) (w : World) (ha : Row w ao n F T G) (hi : IRow w po k P) (he : ERow w eo m L H) (hs : SRow w so t S) (ha' : Row w ao' n F T G) (hi' : IRow w po' k P) (he' : ERow w eo' m L H) (hs' : SRow w so' t S) :
    Calls Tryz.prog 7 #[.agg #[.int .i64 p, .slice ao n a1, .slice po k p1, .slice eo m e1, .int .i64 V, .slice so t s1], .agg #[.int .i64 p, .slice ao' n a2, .slice po' k p2, .slice eo' m e2, .int .i64 V, .slice so' t s2]] w fun e w' => e = .returned (.bool true) ∧ Below w.heap.size w w' := by
  have hB0 : Below w.heap.size w ((w.alloc (.cells #[.int .i64 p, .slice ao n a1, .slice po k p1, .slice eo m e1, .int .i64 V, .slice so t s1] 33)).alloc (.cells #[.int .i64 p, .slice ao' n a2, .slice po' k p2, .slice eo' m e2, .int .i64 V, .slice so' t s2] 33)) := ((Below.refl _ w).alloc nl _).alloc (by simp) _
  have vA := (sv6_new w p (.slice ao n a1) (.slice po k p1) (.slice eo m e1) V (.slice so t s1) 33).alloc (.cells #[.int .i64 p, .slice ao' n a2, .slice po' k p2, .slice eo' m e2, .int .i64 V, .slice so' t s2] 33)
  have vB := sv6_new (w.alloc (.cells #[.int .i64 p, .slice ao n a1, .slice po k p1, .slice eo m e1, .int .i64 V, .slice so t s1] 33)) p (.slice ao' n a2) (.slice po' k p2) (.slice eo' m e2) V (.slice so' t s2) 33
  simp only [World.size_alloc] at vB
  go_enter Tryz.func7, Tryz.ntmps7
  go_wp2_with fail
  generalize ((w.alloc (.cells #[.int .i64 p, .slice ao n a1, .slice po k p1, .slice eo m e1, .int .i64 V, .slice so t s1] 33)).alloc (.cells #[.int .i64 p, .slice ao' n a2, .slice po' k p2, .slice eo' m e2, .int .i64 V, .slice so' t s2] 33)) = W at hB0 vA vB ⊢
  refine (likeGraph_same p ao ao' n a1 a2 F T G hn _ (ha.below hB0 nl) (ha'.below hB0 nl)).mono ?_
  rintro e w1 ⟨rfl, hb1⟩
  replace vA := vA.next hb1
  replace vB := vB.next hb1
  have hB1 := below_next hB0 nl hb1
  have x2 := vA.cell (j := 2) (by omega)
  have x3 := vA.cell (j := 3) (by omega)
  have y2 := vB.cell (j := 2) (by omega)
  have y3 := vB.cell (j := 3) (by omega)
  simp [sv6] at x2 x3 y2 y3
  go_wp2_with fail
  refine (likeHier_same po eo po' eo' k m p1 e1 p2 e2 P L H hk hm _ (hi.below hB1 nl) (he.below hB1 nl) (hi'.below hB1 nl) (he'.below hB1 nl)).mono ?_
  rintro e w2 ⟨rfl, hb2⟩
  clear x2 x3 y2 y3
  replace vA := vA.next hb2
  replace vB := vB.next hb2
  have hB2 := below_next hB1 nl hb2
  have x4 := vA.cell (j := 4) (by omega)
  have x5 := vA.cell (j := 5) (by omega)
  have y4 := vB.cell (j := 4) (by omega)
  have y5 := vB.cell (j := 5) (by omega)
  simp [sv6] at x4 x5 y4 y5
  go_wp2_with fail
  refine (likeTexts_same so so' t s1 s2 S ht _ (hs.below hB2 nl) (hs'.below hB2 nl)).mono ?_
  rintro e w3 ⟨rfl, hb3⟩
  go_wp2
  go_ret
  exact ⟨rfl, below_next hB2 nl hb3⟩
end
end Go.Proofs.YthmpliljffmmcaaGreatDoor
