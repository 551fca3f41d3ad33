/-
  Proved: at every map and every list of numbers the law FnExactFill answers true, and its arguments read behind the call as they read before. No condition.
-/
import Derived.Test.YtaddhiojahmbpafFillW
import Derived.Test.YtaddhiojahmbpafOpenInts
import Derived.Test.YtaddhiojahmbpafOpen
import Derived.Test.YtaddhiojahmbpafHasLaw
import Derived.Test.YtaddhiojahmbpafEdgeEq
import Derived.Test.YtaddhiojahmbpafEdgeHeld
set_option linter.unusedVariables false
set_option linter.unusedSimpArgs false
namespace Go.Proofs.Ytaddhiojahmbpaf
open Go.ChangeShapes Go.WideShapes Go.ChangeAt Go.RowKit Go.Deep Go.Joins
attribute [local go_sem ↓] Go.wp_at_zero Go.wp_at_succ

theorem erow_of {W : World} {ao : Option Addr} {m b : Nat} {L H : Nat → Int} (ha : 0 < m → ao = some ⟨b, 0, none⟩) (h : 0 < m → EHas W b m (er L H)) : ERow W ao m L H := fun k hk => by
  rw [ha (by omega)]
  exact (h (by omega)).row k hk

/-- What stands between the law's calls: the law's arguments, the edges that the document answers, the edges that the program answers. -/
structure SE (B : Nat) (W0 W : World) (m : Nat) (D f : Nat → Int) (gw bg : Nat) : Prop where
  hA : Below B W0 W
  doc : 0 < m → EHas W gw m D
  own : 0 < m → EHas W bg m f
theorem SE.next {B : Nat} {W0 W W' : World} {m : Nat} {D f : Nat → Int} {gw bg : Nat} (h : SE B W0 W m D f gw bg) (hB : B ≤ W0.heap.size) (hb : Below W.heap.size W W') : SE B W0 W' m D f gw bg :=
  ⟨below_next h.hA hB hb, fun hm => (h.doc hm).next hb, fun hm => (h.own hm).next hb⟩
theorem SE.aside {B : Nat} {W0 W W' : World} {m b : Nat} {D f : Nat → Int} {gw bg : Nat} (h : SE B W0 W m D f gw bg) (hB : B ≤ W0.heap.size) (hg : W.grownBy W' (some b)) (hb : B ≤ b) (h1 : gw ≠ b) (h2 : bg ≠ b) : SE B W0 W' m D f gw bg :=
  ⟨h.hA.trans (gr_below hg hb (Nat.le_trans hB h.hA.size)), fun hm => (h.doc hm).grown hg (by simp; exact h1), fun hm => (h.own hm).grown hg (by simp; exact h2)⟩
theorem SE.marked {B : Nat} {W0 W W' : World} {m : Nat} {D f f' : Nat → Int} {gw bg : Nat} (h : SE B W0 W m D f gw bg) (hB : B ≤ W0.heap.size) (hg : W.grownBy W' (some bg)) (hn : 0 < m → EHas W' bg m f') (hb : B ≤ bg) (h1 : gw ≠ bg) : SE B W0 W' m D f' gw bg :=
  ⟨h.hA.trans (gr_below hg hb (Nat.le_trans hB h.hA.size)), fun hm => (h.doc hm).grown hg (by simp; exact h1), hn⟩

set_option maxHeartbeats 8000000 in
theorem lawFill_walk (p : Int) (ao : Option Addr) (n cap : Nat) (F T G : Nat → Int) (po : Option Addr) (k pcap : Nat) (P : Nat → Int) (hn : n ≤ maxLen) (hk : k ≤ maxLen) (w : World) (hr : Row w ao n F T G) (hp : IRow w po k P) :
    Calls Try.prog 8 #[.agg #[.int .i64 p, .slice ao n cap], .slice po k pcap] w fun e w' => e = .returned (.bool true) ∧ Below w.heap.size w w' := by
  unfold maxLen at hn hk
  by_cases hbigm : 1048576 < k
  · go_enter Try.func8, Try.ntmps8
    go_wp2
    go_ret
    exact ⟨rfl, (Below.refl _ _).alloc (Nat.le_refl _) _⟩
  have hk' : k ≤ 1048576 := by omega
  by_cases hbig : 1048576 < n
  · go_enter Try.func8, Try.ntmps8
    go_wp2_with (go_at_call 9; refine (szGraph_out p ao n cap 1048576 (by omega) (by omega) (by omega) (by omega) _).mono ?_; rintro e w1 ⟨rfl, hb1⟩)
    go_ret
    exact ⟨rfl, unbox hb1 (by simp)⟩
  have hn' : n ≤ 1048576 := by omega
  obtain ⟨m, hm⟩ : ∃ m, lenF p n F T G k P = m := ⟨_, rfl⟩
  obtain ⟨L, hL⟩ : ∃ L, Lf (lstF p n F T P) = L := ⟨_, rfl⟩
  obtain ⟨H, hH⟩ : ∃ H, Hf (lstF p n F T P) = H := ⟨_, rfl⟩
  have hm24 : m ≤ 1000 := by rw [← hm]; exact lenF_le p n F T G k P
  have hspec := fun ao' cap' po' pcap' W hr' hp' => specFill_any p ao' n cap' F T G po' k pcap' P hn' hk' W hr' hp'
  have himpl := fun ao' cap' po' pcap' W hr' hp' => implFill_any p ao' n cap' F T G po' k pcap' P hn' hk' W hr' hp'
  rw [hm, hL, hH] at hspec himpl
  have HSP : Hid (∀ ao' cap' po' pcap' W, Row W ao' n F T G → IRow W po' k P → Calls Try.prog 27 #[.agg #[.int .i64 p, .slice ao' n cap'], .slice po' k pcap'] W fun e w' => EAns W w' e m L H) := hspec
  have HIM : Hid (∀ ao' cap' po' pcap' W, Row W ao' n F T G → IRow W po' k P → Calls Try.prog 28 #[.agg #[.int .i64 p, .slice ao' n cap'], .slice po' k pcap'] W fun e w' => EAns W w' e m L H) := himpl
  clear hspec himpl hm hL hH
  have hm' : m ≤ 1048576 := by omega
  go_enter Try.func8, Try.ntmps8
  go_wp2_with fail
  refine (szGraph_in p ao n cap 1048576 (by omega) (by omega) _).mono ?_
  rintro e w1 ⟨rfl, hb1⟩
  have hA1 := boxed hb1
  obtain ⟨x0, x1, xs⟩ := box2 hA1
  go_wp2_with fail
  refine (toGraph_any p ao n cap F T G hn' _ ((hr.alloc _).below hA1 (by simp))).mono ?_
  rintro e w2 ⟨b2, rfl, hb2', hown2, hb2⟩
  have hA2 := below_next hA1 (by simp) hb2
  clear x0 x1 xs
  obtain ⟨x0, x1, xs⟩ := box2 hA2
  go_wp2_with fail
  refine (toInt64S_any po k pcap P hk' _ ((hp.alloc _).below hA2 (by simp))).mono ?_
  rintro e w3 ⟨rfl, hown3, hb3⟩
  have hA3 := below_next hA2 (by simp) hb3
  clear x0 x1 xs
  go_wp2_with fail
  refine (HSP.out _ _ _ _ _ (hown2.row.below hb3 (Nat.le_refl _)) hown3.row).mono ?_
  rintro e w4 ⟨aoW, capW, rfl, hW, hb4⟩
  have hA4 := below_next hA3 (by simp) hb4
  obtain ⟨gw, hgw1, hgw2, hgw3⟩ : ∃ gw, (0 < m → aoW = some ⟨gw, 0, none⟩) ∧ gw < w4.heap.size ∧ (0 < m → EHas w4 gw m (er L H)) := by
    by_cases h0 : 0 < m
    · obtain ⟨g, e, _, hI⟩ := hW h0
      exact ⟨g, fun _ => e, hI.lt, fun _ => hI⟩
    · exact ⟨0, fun h => absurd h h0, by have := hA4.size; simp at this; omega, fun h => absurd h h0⟩
  clear hown2 hown3 hb1 hb2 hb3 hb4 hA1 hA2 hA3 hb2' hW
  obtain ⟨x0, x1, xs⟩ := box2 hA4
  go_wp2_with fail
  refine (toGraph_any p ao n cap F T G hn' _ ((hr.alloc _).below hA4 (by simp))).mono ?_
  rintro e w5 ⟨bX, rfl, hbX, hownX, hb5⟩
  have hA5 := below_next hA4 (by simp) hb5
  have hgw5 : 0 < m → EHas w5 gw m (er L H) := fun h => (hgw3 h).next hb5
  have hs5 := hb5.size
  have hbX5 : bX < w5.heap.size := World.rowIs.lt hownX
  clear x0 x1 hgw3 hb5 hA4
  have hal := (Below.refl w5.heap.size w5).alloc (Nat.le_refl _) (.cells #[.int .i64 p, .slice (some ⟨bX, 0, none⟩) n n] 30)
  have hA5' := below_next hA5 (by simp) hal
  have hX5 := (Has.of_own hownX).below hal hbX5
  have hgw5' : 0 < m → EHas (w5.alloc (.cells #[.int .i64 p, .slice (some ⟨bX, 0, none⟩) n n] 30)) gw m (er L H) := fun h => (hgw5 h).next hal
  clear hownX hgw5 hA5
  go_wp2_with fail
  refine (toInt64S_any po k pcap P hk' _ ((hp.alloc _).below hA5' (by simp))).mono ?_
  rintro e w6 ⟨rfl, hI6, hb6⟩
  simp only [World.size_alloc] at hI6
  have u0 := keep_cell hb6 (Nat.le_refl _) (b := w5.heap.size) (o := 0) (by simp [go_sem]; rfl)
  have u1 := keep_cell hb6 (Nat.le_refl _) (b := w5.heap.size) (o := 1) (by simp [go_sem]; rfl)
  have hA6 := below_next hA5' (by simp) hb6
  have hX6 := hX5.below hb6 hX5.lt
  have hgw6 : 0 < m → EHas w6 gw m (er L H) := fun h => (hgw5' h).next hb6
  have hs6 := hI6.lt
  clear hX5 hgw5' hb6 hal hA5'
  go_wp2_with fail
  refine (HIM.out _ _ _ _ _ hX6.row hI6.row).mono ?_
  rintro e w7 ⟨aoG, capG, rfl, hG, hb7⟩
  have hA7 := below_next hA6 (by simp) hb7
  have hX7 := hX6.below hb7 hX6.lt
  have hI7 := hI6.below hb7 hI6.lt
  have hs7 := hb7.size
  replace u0 := keep_cell hb7 (Nat.le_refl _) u0
  replace u1 := keep_cell hb7 (Nat.le_refl _) u1
  obtain ⟨bg, hbg1, hbg2, hbg3⟩ : ∃ bg, (0 < m → aoG = some ⟨bg, 0, none⟩) ∧ w6.heap.size ≤ bg ∧ (0 < m → EHas w7 bg m (er L H)) := by
    by_cases h0 : 0 < m
    · obtain ⟨g, e, hge, hI⟩ := hG h0
      exact ⟨g, fun _ => e, hge, fun _ => hI⟩
    · exact ⟨w6.heap.size, fun h => absurd h h0, Nat.le_refl _, fun h => absurd h h0⟩
  have hS : SE (w.heap.size + 1) _ w7 m (er L H) (er L H) gw bg := ⟨hA7, fun h => (hgw6 h).next hb7, hbg3⟩
  clear hG hb7 hA6 hA7 hX6 hI6 hgw6 hbg3
  go_wp2_with fail
  refine (eqEdgeS_same aoG aoW m capG capW L H hm' _ (erow_of hbg1 hS.own) (erow_of hgw1 hS.doc)).mono ?_
  rintro e w8 ⟨rfl, hb8⟩
  replace hS := hS.next (by simp) hb8
  have hX8 := hX7.below hb8 hX7.lt
  have hI8 := hI7.below hb8 hI7.lt
  replace u0 := keep_cell hb8 (Nat.le_refl _) u0
  replace u1 := keep_cell hb8 (Nat.le_refl _) u1
  clear hX7 hI7 hb8
  obtain ⟨x0, x1, xs'⟩ := box2 hS.hA
  go_wp2_with fail
  have hSd := hS.next (by simp) (Below.refl _ w8).drew
  have hXd := hX8.below (Below.refl _ w8).drew hX8.lt
  have hId := hI8.below (Below.refl _ w8).drew hI8.lt
  go_region_held3 (fun w' => w'.cell? ⟨w5.heap.size, 0, none⟩ = some (.int .i64 p) ∧ w'.cell? ⟨w5.heap.size, 1, none⟩ = some (.slice (some ⟨bX, 0, none⟩) n n) ∧ w'.cell? ⟨w.heap.size, 0, none⟩ = some (.int .i64 p) ∧ w'.cell? ⟨w.heap.size, 1, none⟩ = some (.slice ao n cap))
    (first | (go_split_ands; refine ⟨?_, ?_, ?_, ?_⟩ <;> exact keep_cell hb10 (Nat.le_refl _) (by assumption)) | (go_split_ands; refine ⟨?_, ?_, ?_, ?_⟩ <;> exact keep_cell hb9 (Nat.le_refl _) (by assumption)) | go_keep)
    (first | (go_at_call 11; refine (toGraph_any p ao n cap F T G hn' _ ((hr.alloc _).below hSd.hA (by simp))).mono ?_; rintro e w9 ⟨b9, rfl, hb9', hown9, hb9⟩) | (go_at_call 14; refine (eqGraph_same p _ _ n n n F T G hn' _ (hXd.below hb9 hXd.lt).row hown9.row).mono ?_; rintro e w10 ⟨rfl, hb10⟩))
  replace hS := (hSd.next (by simp) hb9).next (by simp) hb10
  have hX10 := (hXd.below hb9 hXd.lt).below hb10 (hXd.below hb9 hXd.lt).lt
  have hI10 := (hId.below hb9 hId.lt).below hb10 (hId.below hb9 hId.lt).lt
  have v0 : w10.cell? ⟨w5.heap.size, 0, none⟩ = some (.int .i64 p) := keep_cell hb10 (Nat.le_refl _) (keep_cell hb9 (Nat.le_refl _) u0)
  have v1 : w10.cell? ⟨w5.heap.size, 1, none⟩ = some (.slice (some ⟨bX, 0, none⟩) n n) := keep_cell hb10 (Nat.le_refl _) (keep_cell hb9 (Nat.le_refl _) u1)
  clear hSd hXd hId hX8 hI8 hb9 hb9' hb10 hown9 x0 x1 xs' u0 u1
  go_wp2_with fail
  refine (toInt64S_any po k pcap P hk' _ ((hp.alloc _).below hS.hA (by simp))).mono ?_
  rintro e w11 ⟨rfl, hY11, hb11⟩
  replace hS := hS.next (by simp) hb11
  have hX11 := hX10.below hb11 hX10.lt
  have hI11 := hI10.below hb11 hI10.lt
  replace v0 := keep_cell hb11 (Nat.le_refl _) v0
  replace v1 := keep_cell hb11 (Nat.le_refl _) v1
  clear hX10 hI10 hb11
  go_wp2_with fail
  refine (eqInt64S_same _ _ k k k P hk' _ hI11.row hY11.row).mono ?_
  rintro e w12 ⟨rfl, hb12⟩
  replace hS := hS.next (by simp) hb12
  have hX12 := hX11.below hb12 hX11.lt
  have hI12 := hI11.below hb12 hI11.lt
  replace v0 := keep_cell hb12 (Nat.le_refl _) v0
  replace v1 := keep_cell hb12 (Nat.le_refl _) v1
  clear hX11 hI11 hb12 hY11
  go_wp2_with fail
  refine (markGraph_any p bX n n (ar F T G) 1 (by omega) (by omega) hn' _ (fun _ => hX12) _ (fun _ => rfl)).mono ?_
  rintro e w13 ⟨rfl, _, hg13⟩
  replace hS := hS.aside (by simp) hg13 (by omega) (by omega) (by omega)
  have hI13 := hI12.grown hg13 (by simp; omega)
  clear hX12 hI12 hg13 v0 v1
  have hk3 : (0 : Int) ≤ 1 + 3 * (n : Int) := by omega
  have hk4 : 1 + 3 * (n : Int) ≤ 4000000 := by omega
  go_wp2_with fail
  refine (markInt64S_any (w5.heap.size + 1) k k P _ hk3 hk4 hk' _ (fun _ => hI13) _ (fun _ => rfl)).mono ?_
  rintro e w14 ⟨rfl, _, hg14⟩
  have hwx := hS.hA.size
  simp only [World.size_alloc] at hwx
  replace hS := hS.aside (by simp) hg14 (by omega) (by omega) (by omega)
  clear hI13 hg14
  have hk5 : ¬ 1 + 3 * (n : Int) + (k : Int) < 0 := by omega
  go_wp2_with fail
  refine (eqEdgeS_same aoG aoW m capG capW L H hm' _ (erow_of hbg1 hS.own) (erow_of hgw1 hS.doc)).mono ?_
  rintro e w15 ⟨rfl, hb15⟩
  replace hS := hS.next (by simp) hb15
  clear hb15
  go_wp2_with fail
  refine (markEdgeS_any bg m capG (er L H) 1 (by omega) (by omega) hm' _ hS.own aoG hbg1).mono ?_
  rintro e w16 ⟨rfl, hm16, hg16⟩
  replace hS := hS.marked (by simp) hg16 hm16 (by omega) (by omega)
  clear hm16 hg16
  go_wp2_with fail
  refine (heldEdgeS_any bg m capG 1 (by omega) (by omega) hm' _ hS.own aoG hbg1).mono ?_
  rintro e w17 ⟨rfl, hq⟩
  have hq' := hq.symm
  subst hq'
  clear hq
  obtain ⟨x0, x1, xs'⟩ := box2 hS.hA
  go_wp2_with fail
  refine (toGraph_any p ao n cap F T G hn' _ ((hr.alloc _).below hS.hA (by simp))).mono ?_
  rintro e w18 ⟨b18, rfl, hb18', hown18, hb18⟩
  replace hS := hS.next (by simp) hb18
  clear x0 x1 xs' hb18
  obtain ⟨x0, x1, xs'⟩ := box2 hS.hA
  go_wp2_with fail
  refine (toInt64S_any po k pcap P hk' _ ((hp.alloc _).below hS.hA (by simp))).mono ?_
  rintro e w19 ⟨rfl, hY19, hb19⟩
  replace hS := hS.next (by simp) hb19
  have hrow19 := hown18.row.below hb19 (Nat.le_refl _)
  clear x0 x1 xs' hb19 hown18 hb18'
  go_wp2_with fail
  refine (HIM.out _ _ _ _ _ hrow19 hY19.row).mono ?_
  rintro e w20 ⟨aoH, capH, rfl, hH, hb20⟩
  replace hS := hS.next (by simp) hb20
  have hrowH : ERow w20 aoH m L H := fun k hk => by
    obtain ⟨g, e, _, hI⟩ := hH (by omega)
    subst e
    exact hI.row k hk
  clear hH hb20 hrow19 hY19
  go_wp2_with fail
  refine (eqEdgeS_same aoH aoW m capH capW L H hm' _ hrowH (erow_of hgw1 hS.doc)).mono ?_
  rintro e w21 ⟨rfl, hb21⟩
  replace hS := hS.next (by simp) hb21
  clear hb21 hrowH
  go_wp2_with fail
  refine (heldEdgeS_any bg m capG 1 (by omega) (by omega) hm' _ hS.own aoG hbg1).mono ?_
  rintro e w22 ⟨rfl, hq⟩
  have hq' := hq.symm
  subst hq'
  clear hq
  go_wp2
  go_ret
  exact ⟨rfl, unbox hS.hA (by omega)⟩

set_option maxRecDepth 100000 in
theorem lawFill_lifted (os : Os) (started : os.Started) (H : Type) (enc : TypeId × Value → H) :
    ReturnsInHanded {} Try.checked os 8 .any (Rows.fnExactFillSpec.pre6 enc Try.prog Try.f8 Rows.fnExactFillRow.domain false) (Rows.fnExactFillSpec.post enc Try.prog Try.f8 false true false false) := by
  refine returnsInHanded_of_change (C := Try.checked) Try.own started (by kernel_rfl) Try.func8
    (ChangeSpec.witness6 (enc := enc) (C := Try.checked) false ⟨#[], #[.agg #[.int .i64 0, .slice none 0 0], .slice none 0 0], []⟩ 8 (by kernel_rfl) (by kernel_rfl) (by kernel_rfl) (by kernel_rfl)) ?_
  intro W base args ds gs before hval0 hW hcnd _
  have hval : ∀ (j : Nat) t v, Try.f8.params[j]? = some t → args[j]? = some v → Value.okWide Try.prog W .any base t v := hval0
  have hW' := hW
  obtain ⟨p, q, hA0, hV, rfl, hfz, hnd⟩ := hW
  have hA : DataW.TrodAll enc Try.prog W 0 (fun _ => true) true Try.f8.params.toList args.toList ds p := hA0
  rw [Try.params8] at hA hval
  obtain ⟨v0, vs0, d0, ds0, p0, q0, hargs, rfl, rfl, h0, r0⟩ := trodAll_cons hA
  obtain ⟨v1, vs1, d1, ds1, p1, q1, rfl, rfl, rfl, h1, r1⟩ := trodAll_cons r0
  obtain ⟨rfl, rfl, rfl⟩ := trodAll_nil r1
  obtain rfl : args = #[v0, v1] := by cases args; simp_all
  obtain ⟨rfl, rfl⟩ := trodVars_none hV
  have k0 := h0
  have k1 := h1
  have lt0 : ∀ x ∈ p0, x.block < W.heap.size := by obtain ⟨m, hm⟩ := k0; exact DataW.trod_lt m _ _ _ hm
  have lt1 : ∀ x ∈ p1, x.block < W.heap.size := by obtain ⟨m, hm⟩ := k1; exact DataW.trod_lt m _ _ _ hm
  obtain ⟨c0, c1, y0, y1, m, rfl, _, _, hy0, hy1⟩ := open_agg2 Try.underlying24 (by kernel_rfl) Try.cellsLGraph (hval 0 24 v0 rfl rfl) h0
  obtain ⟨pl, e0, _, _⟩ := DataW.trod_int Try.underlying2 hy0
  obtain ⟨ao, n, cap, F, T, G, e1, hn, hr⟩ := open_arcs hy1
  obtain ⟨b1, l1, c1', rfl⟩ := okWide_slice Try.underlying25 (hval 1 25 v1 rfl rfl)
  obtain ⟨f1, hf1⟩ := h1
  obtain ⟨ao2, m2, cap2, A, e2, hm2, hr2, hwf2⟩ := open_nums hf1
  simp [Value.cells] at e0 e1 e2
  obtain ⟨rfl, rfl, rfl⟩ := e2
  subst e0 e1
  clear hA0 hval0
  refine (lawFill_walk pl ao n cap F T G b1 l1 c1' A hn hm2 W hr hr2).mono fun e W' ⟨he, bel⟩ => ?_
  subst he
  exact ⟨_, rfl, _, _, _, [], _, [], hW', trodAll_mk1 (shut_bool Try.underlying4 _), (trodAll_cons_mk (Below.trod Try.laidOut (by kernel_rfl) (of_decide_eq_true (by kernel_rfl)) k0 bel lt0) (trodAll_cons_mk (Below.trod Try.laidOut (by kernel_rfl) (of_decide_eq_true (by kernel_rfl)) k1 bel lt1) trodAll_mk0)), rfl, bel.frame _, fun h => by cases h⟩

theorem fnExactFill_holds : Rows.FnExactFillSaid :=
  OpenClaim.holds_of_wide 8 Try.f8 rfl rfl rfl rfl rfl rfl rfl ⟨rfl, rfl, rfl, rfl, rfl⟩ rfl rfl rfl rfl rfl (by kernel_rfl) Try.func8 (by kernel_rfl)
    (of_decide_eq_true (by kernel_rfl)) (by unfold Func.isWrapper; first | (rw [if_pos (by decide +kernel)]; kernel_rfl) | (rw [if_neg (by decide +kernel)]; exact ⟨rfl, rfl⟩))
    (fun os started H enc _ => lawFill_lifted os started H enc)
#print axioms fnExactFill_holds

end Go.Proofs.Ytaddhiojahmbpaf
