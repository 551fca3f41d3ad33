/-
  Proved: at every list of bytes the law FnMerged answers true, and its argument and the variables that it names read behind the call as they read before; what these variables read as is tied to the program's text. No condition.
-/
import Derived.Test.YtcmeppjfjledfacDoorPack5
import Derived.Test.YtcmeppjfjledfacDoorPack6
import Derived.Test.YtcmeppjfjledfacDoorTie
import Derived.Test.YtcmeppjfjledfacDoorCards
import Derived.ProofKit
import Derived.LaidMore
import Derived.OpenShut
import Derived.OpenVars
import Derived.ChangeVars
import Derived.Stop.Joined
import Derived.Stop.LaidErr
import Derived.ChangeMaps5
import Derived.Shelf.Vars
import Derived.Handed
import Derived.LaidHandle
import Derived.Deep.DeepLaidRun
import Derived.Lay
import Derived.SevenTiedAt
set_option linter.unusedVariables false
set_option linter.unusedSimpArgs false
namespace Go.Proofs.YtcmeppjfjledfacDoor
open Go.ChangeShapes Go.WideShapes Go.ChangeAt Go.RowKit Go.Deep Go.Joins
attribute [local go_sem ↓] Go.wp_at_zero Go.wp_at_succ

theorem vars_shape1 {H : Type} {enc : TypeId × Value → H} {P : Program} {w : World} {sp : Nat → Bool} {a : String} {gs : List (DataW H)} {q : List MemPlace} (h : DataW.TrodVars enc P w sp [a] gs q) : ∃ g0, gs = [g0] := by
  match gs, h with
  | [], h => exact h.elim
  | [g0], _ => exact ⟨g0, rfl⟩
  | _ :: _ :: _, h =>
    obtain ⟨_, _, _, _, _, _, _, _, _, _, hs, _⟩ := h
    exact hs.elim
theorem vars_shape3 {H : Type} {enc : TypeId × Value → H} {P : Program} {w : World} {sp : Nat → Bool} {a b c : String} {gs : List (DataW H)} {q : List MemPlace} (h : DataW.TrodVars enc P w sp [a, b, c] gs q) : ∃ g0 g1 g2, gs = [g0, g1, g2] := by
  match gs, h with
  | [], h => exact h.elim
  | g0 :: gs, h =>
    obtain ⟨_, _, _, _, _, _, _, _, _, _, hs, _⟩ := h
    match gs, hs with
    | [], hs => exact hs.elim
    | g1 :: gs, hs =>
      obtain ⟨_, _, _, _, _, _, _, _, _, _, ht, _⟩ := hs
      obtain ⟨g2, rfl⟩ := vars_shape1 ht
      exact ⟨g0, g1, g2, rfl⟩

/-- What the named variables hold. -/
structure Glb (w : World) (aE aL aO : Addr) : Prop where
  E : w.cell? ⟨0, 0, none⟩ = some (vE aE)
  L : w.cell? ⟨1, 0, none⟩ = some (vE aL)
  O : w.cell? ⟨2, 0, none⟩ = some (vE aO)
  T : w.cell? ⟨3, 0, none⟩ = some (.iface 130 (.agg #[hdl 77]))
theorem Glb.next {w w' : World} {aE aL aO : Addr} (h : Glb w aE aL aO) (hb : Below w.heap.size w w') : Glb w' aE aL aO :=
  ⟨keep_cell hb (Nat.le_refl _) h.E, keep_cell hb (Nat.le_refl _) h.L, keep_cell hb (Nat.le_refl _) h.O, keep_cell hb (Nat.le_refl _) h.T⟩
theorem hid {p : Prop} (h : p) : Hid p := h
theorem mLen_le (n : Nat) (T : Nat → Int) (X : Nat → ByteArray) (i : Int) (m : Nat) (U : Nat → Int) (Y : Nat → ByteArray) : mLen n T X i m U Y ≤ 200 := by
  unfold mLen
  split
  · rename_i h
    unfold mOk at h
    simp only [Bool.and_eq_true] at h
    exact (logB_at h.2.2.2).1
  · omega

set_option maxRecDepth 100000 in
set_option maxHeartbeats 8000000 in
theorem lawFnMerged_walk (ao : Option Addr) (n cap : Nat) (aE aL aO : Addr) (hn : n ≤ maxLen) (w : World) (hr : ByRow w w.heap.size ao n) (hG : Glb w aE aL aO) :
    Calls Tryd.prog 4 #[.slice ao n cap] w fun e w' => e = .returned (.bool true) ∧ Below w.heap.size w w' := by
  unfold maxLen at hn
  have HBg := fun W => big_any ao n cap (by omega) W
  by_cases hbig : 4096 < n
  · simp only [hbig, decide_true] at HBg
    go_enter Tryd.func4, Tryd.ntmps4
    go_wp2_with fail
    refine (HBg _).mono ?_
    rintro e w0 ⟨rfl, hq⟩
    have hq' := hq.symm
    subst hq'
    clear hq
    go_wp2
    go_ret
    exact ⟨rfl, Below.refl _ _⟩
  simp only [hbig, decide_false] at HBg
  have hn4 : n ≤ 4096 := by omega
  go_enter Tryd.func4, Tryd.ntmps4
  go_wp2_with fail
  refine (HBg _).mono ?_
  rintro e w0 ⟨rfl, hq⟩
  have hq' := hq.symm
  subst hq'
  clear hq
  go_wp2_with fail
  refine (drawMerge_any ao n cap hn4 _ hr).mono ?_
  rintro e w1 ⟨lo, k, lc, i, eo, m, ec, rfl, hk, hm, ⟨T, X, hrL, hX, hklc⟩, ⟨U, Y, hrE, hY, hmec⟩, hA1⟩
  have hG1 := hG.next hA1
  have hX1 : ∀ x, x < k → (X x).size ≤ 1048576 := fun x hx => by have := hX x hx; omega
  have hY1 : ∀ x, x < m → (Y x).size ≤ 1048576 := fun x hx => by have := hY x hx; omega
  have HIM := fun W h3 h4 (h5 : Glb W aE aL aO) => implMerge_any lo k lc T X i eo m ec U Y aE aL aO (by omega) hklc (by omega) hmec hX1 hY1 W h3 h4 h5.E h5.L h5.O h5.T
  have HSP := fun W h3 h4 => specMerge_any lo k lc T X i eo m ec U Y (by omega) hklc (by omega) hmec hX1 hY1 W h3 h4
  unfold MAnsN at HIM HSP
  have hNl : mLen k T X i m U Y ≤ 200 := mLen_le _ _ _ _ _ _ _
  have hM : mOk k T X i m U Y = true → ∃ j : Nat, i = j ∧ Mrgd k T X j m U Y (mLen k T X i m U Y) (mV m (agN k T i.toNat m U) i.toNat T U) (mV m (agN k T i.toNat m U) i.toNat X Y) := mrgd_of
  have hM0 : mOk k T X i m U Y = false → mLen k T X i m U Y = 0 := fun h => if_neg (by rw [h]; simp)
  have hXX : ∀ x, x < mLen k T X i m U Y → (mV m (agN k T i.toNat m U) i.toNat X Y x).size ≤ 1048576 := fun x hx => by
    cases hq : mOk k T X i m U Y
    · rw [hM0 hq] at hx; omega
    · obtain ⟨j, rfl, h⟩ := hM hq
      have hl : mLen k T X (j : Int) m U Y = mN k j m (agN k T j m U) := if_pos hq
      rw [hl] at hx
      exact mV_le h.jn (agN_in h.jn) hX1 hY1 x hx
  generalize mLen k T X i m U Y = N at HIM HSP hNl hM hM0 hXX
  generalize mOk k T X i m U Y = q at HIM HSP hM hM0
  generalize mV m (agN k T i.toNat m U) i.toNat T U = T' at HIM HSP hM
  generalize mV m (agN k T i.toNat m U) i.toNat X Y = X' at HIM HSP hM hXX
  replace hM := hid hM
  replace hM0 := hid hM0
  go_wp2_with fail
  refine (HIM _ hrL hrE hG1).mono ?_
  rintro e w2 ⟨aoX, capX, rfl, hcX, hOX, hb2⟩
  have hA2 := below_next hA1 (Nat.le_refl _) hb2
  have hG2 := hG1.next hb2
  have hrX2 := hOX.row
  have hrL2 := hrL.below hb2 (Nat.le_refl _)
  have hrE2 := hrE.below hb2 (Nat.le_refl _)
  clear hrL hrE hb2 HIM hOX hG1
  go_wp2_with fail
  refine (HSP _ hrL2 hrE2).mono ?_
  rintro e w3 ⟨aoY, capY, rfl, _, hOY, hb3⟩
  have hA3 := below_next hA2 (Nat.le_refl _) hb3
  have hG3 := hG2.next hb3
  have hrX3 := hrX2.below hb3 (Nat.le_refl _)
  have hrL3 := hrL2.below hb3 (Nat.le_refl _)
  have hrE3 := hrE2.below hb3 (Nat.le_refl _)
  have hrY3 := hOY.row
  clear hrL2 hrE2 hrX2 hb3 HSP hOY hG2
  go_wp2_with fail
  refine (likeLog_same aoX aoY N capX capY T' X' (by omega) _ hrX3 hrY3).mono ?_
  rintro e w4 ⟨rfl, hb4⟩
  have hA4 := below_next hA3 (Nat.le_refl _) hb4
  have hG4 := hG3.next hb4
  have hrX4 := hrX3.below hb4 (Nat.le_refl _)
  have hrL4 := hrL3.below hb4 (Nat.le_refl _)
  have hrE4 := hrE3.below hb4 (Nat.le_refl _)
  clear hrL3 hrE3 hrX3 hrY3 hb4 hG3
  go_wp2_with fail
  have hr4 : ByRow w4 w4.heap.size ao n := fun x hx => by
    obtain ⟨b, o, v, e, hb, hc⟩ := (hr.below hA4 (Nat.le_refl _)) x hx
    exact ⟨b, o, v, e, by have := hA4.size; omega, hc⟩
  refine (drawFits_any ao n cap hn4 _ hr4).mono ?_
  rintro e w5 ⟨fo, kf, fc, jf, tf, rfl, hkf, ⟨Tf, Xf, hrF, hXf, hkfc⟩, hb5⟩
  have hA5 := below_next hA4 (Nat.le_refl _) hb5
  have hG5 := hG4.next hb5
  have hrX5 := hrX4.below hb5 (Nat.le_refl _)
  have hrL5 := hrL4.below hb5 (Nat.le_refl _)
  have hrE5 := hrE4.below hb5 (Nat.le_refl _)
  clear hrL4 hrE4 hrX4 hb5 hG4 hr4
  have hXf1 : ∀ x, x < kf → (Xf x).size ≤ 1048576 := fun x hx => by have := hXf x hx; omega
  have H1 := fun W h (g : Glb W aE aL aO) => implFits_any fo kf fc Tf Xf jf tf aL aO aE (by omega) hXf1 hkfc W h g.L g.O g.E
  have H2 := fun W h => specFits_any fo kf fc Tf Xf jf tf (by omega) hXf1 W h
  have H3 := fun W h => implNewer_any fo kf fc Tf Xf jf tf (by omega) W h
  have H4 := fun W h => specNewer_any fo kf fc Tf Xf jf tf (by omega) W h
  have H5 := fun W h => implLastTerm_any fo kf fc Tf Xf (by omega) W h
  have H6 := fun W h => specLastTerm_any fo kf fc Tf Xf (by omega) W h
  have H7 := fun W h (g : Glb W aE aL aO) => implLogOk_any fo kf fc Tf Xf aL (by omega) hXf1 W h g.L
  have H8 := fun W h => specLogOk_any fo kf fc Tf Xf (by omega) hXf1 W h
  generalize (logB kf Tf Xf && fitB kf Tf jf tf) = bf at H1 H2
  generalize newT kf Tf jf tf = bn at H3 H4
  generalize lastT kf Tf = lf at H5 H6
  generalize logB kf Tf Xf = bl at H7 H8
  go_wp2_with fail
  refine (H1 _ hrF hG5).mono ?_
  rintro e w6 ⟨rfl, hb6⟩
  have hA6 := below_next hA5 (Nat.le_refl _) hb6
  have hG6 := hG5.next hb6
  have hrX6 := hrX5.below hb6 (Nat.le_refl _)
  have hrL6 := hrL5.below hb6 (Nat.le_refl _)
  have hrE6 := hrE5.below hb6 (Nat.le_refl _)
  have hrF6 := hrF.below hb6 (Nat.le_refl _)
  clear hrX5 hrL5 hrE5 hrF hG5 hb6 H1
  go_wp2_with fail
  refine (H2 _ hrF6).mono ?_
  rintro e w7 ⟨rfl, hb7⟩
  have hA7 := below_next hA6 (Nat.le_refl _) hb7
  have hG7 := hG6.next hb7
  have hrX7 := hrX6.below hb7 (Nat.le_refl _)
  have hrL7 := hrL6.below hb7 (Nat.le_refl _)
  have hrE7 := hrE6.below hb7 (Nat.le_refl _)
  have hrF7 := hrF6.below hb7 (Nat.le_refl _)
  clear hrX6 hrL6 hrE6 hrF6 hG6 hb7 H2
  go_wp2_with fail
  refine (H3 _ hrF7).mono ?_
  rintro e w8 ⟨rfl, hq⟩
  have hq' := hq.symm
  subst hq'
  clear hq
  go_wp2_with fail
  refine (H4 _ hrF7).mono ?_
  rintro e w8 ⟨rfl, hq⟩
  have hq' := hq.symm
  subst hq'
  clear hq
  go_wp2_with fail
  refine (H5 _ hrF7).mono ?_
  rintro e w8 ⟨rfl, hq⟩
  have hq' := hq.symm
  subst hq'
  clear hq
  go_wp2_with fail
  refine (H6 _ hrF7).mono ?_
  rintro e w8 ⟨rfl, hq⟩
  have hq' := hq.symm
  subst hq'
  clear hq
  clear H3 H4 H5 H6
  go_wp2_with fail
  refine (H7 _ hrF7 hG7).mono ?_
  rintro e w8 ⟨rfl, hb8⟩
  have hA8 := below_next hA7 (Nat.le_refl _) hb8
  have hG8 := hG7.next hb8
  have hrX8 := hrX7.below hb8 (Nat.le_refl _)
  have hrL8 := hrL7.below hb8 (Nat.le_refl _)
  have hrE8 := hrE7.below hb8 (Nat.le_refl _)
  have hrF8 := hrF7.below hb8 (Nat.le_refl _)
  clear hrX7 hrL7 hrE7 hrF7 hG7 hb8 H7
  go_wp2_with fail
  refine (H8 _ hrF8).mono ?_
  rintro e w9 ⟨rfl, hb9⟩
  have hA9 := below_next hA8 (Nat.le_refl _) hb9
  have hG9 := hG8.next hb9
  have hrX9 := hrX8.below hb9 (Nat.le_refl _)
  have hrL9 := hrL8.below hb9 (Nat.le_refl _)
  have hrE9 := hrE8.below hb9 (Nat.le_refl _)
  clear hrX8 hrL8 hrE8 hrF8 hG8 hb9 H8
  cases q
  · obtain rfl := hM0.out rfl
    go_wp2
    go_ret
    exact ⟨rfl, hA9⟩
  obtain ⟨j, rfl, hD⟩ := hM.out rfl
  obtain ⟨a1, a2, a3, a4⟩ := hD.again
  have HIM := fun W h3 h4 (h5 : Glb W aE aL aO) => implMerge_any aoX N capX T' X' (j : Int) eo m ec U Y aE aL aO (by omega) hcX (by omega) hmec hXX hY1 W h3 h4 h5.E h5.L h5.O h5.T
  unfold MAnsN at HIM
  simp only [Int.toNat_natCast] at HIM
  rw [a1, a2, a3, a4] at HIM
  clear a1 a2 a3 a4
  go_wp2_with fail
  refine (HIM _ hrX9 hrE9 hG9).mono ?_
  rintro e w10 ⟨aoZ, capZ, rfl, _, hOZ, hb10⟩
  have hA10 := below_next hA9 (Nat.le_refl _) hb10
  have hG10 := hG9.next hb10
  have hrX10 := hrX9.below hb10 (Nat.le_refl _)
  have hrL10 := hrL9.below hb10 (Nat.le_refl _)
  have hrE10 := hrE9.below hb10 (Nat.le_refl _)
  have hrZ10 := hOZ.row
  clear hrX9 hrL9 hrE9 hG9 hb10 HIM hOZ
  go_wp2
  go_loopw [15] (fun a wr => ∃ x : Nat, x ≤ m ∧ a = .int .i64 x ∧ Below w10.heap.size w10 wr) (fun a _ => m - (intOf a).toNat)
  case atStart => exact ⟨0, Nat.zero_le _, rfl, Below.refl _ _⟩
  case round =>
    obtain ⟨x, hx, rfl, hbel⟩ := hrel
    have hjN := hD.jN
    have hN2 := hD.N200
    by_cases hlt : x < m
    · obtain ⟨b1, o1, hao1, c0, c1⟩ := (hrX10.below hbel (Nat.le_refl _)) (j + x) (by omega)
      obtain ⟨b2, o2, hao2, d0, d1⟩ := (hrE10.below hbel (Nat.le_refl _)) x hlt
      subst hao1
      subst hao2
      rw [hD.stands x hlt] at c0
      have f0 : (x : Int) < (m : Int) := by omega
      have f1 : IntKind.i64.wrap ((j : Int) + (x : Int)) = (j : Int) + (x : Int) := by rw [IntKind.wrap_i64]; omega
      have f2 : (0 : Int) ≤ (j : Int) + (x : Int) := by omega
      have f3 : (j : Int) + (x : Int) < (N : Int) := by omega
      have f4 : ((j : Int) + (x : Int)).toNat = j + x := by omega
      go_wp2_with fail
      go_quiet (fail)
      go_wp2
      go_roundw
      case rel => exact ⟨x + 1, by omega, by go_num, below_drewN hbel _⟩
      case measure => simp [intOf]; omega
    have hxm : m = x := by omega
    subst hxm
    have hA11 := below_next hA10 (Nat.le_refl _) hbel
    have hG11 := hG10.next hbel
    have hrX11 := hrX10.below hbel (Nat.le_refl _)
    have hrL11 := hrL10.below hbel (Nat.le_refl _)
    have hrZ11 := hrZ10.below hbel (Nat.le_refl _)
    clear hrX10 hrL10 hrE10 hrZ10 hG10
    have g1 : (j : Int) ≤ (capX : Int) := by omega
    have g2 : (j : Int) ≤ (lc : Int) := by have := hD.jn; omega
    go_wp2_with fail
    refine wp_region_held_drew (S := fun _ => True) (by kernel_rfl) trivial (fun _ => ?_)
    refine takeH 0 (some 118) (.bool true) rfl rfl (by kernel_rfl) (by kernel_rfl) (by kernel_rfl) (fun _ _ _ h => h) (by rfl) trivial (fun w _ => by go_simp <;> first | omega | (rw [IntKind.wrap_i64]; omega)) ?_
    simp only [Act.put, List.setIfInBounds_toArray, List.set_cons_zero, List.set_cons_succ]
    refine takeH 1 (some 119) (.bool true) rfl rfl (by kernel_rfl) (by kernel_rfl) (by kernel_rfl) (fun _ _ _ h => h) (by rfl) trivial (fun w _ => by go_simp <;> first | omega | (rw [IntKind.wrap_i64]; omega)) ?_
    simp only [Act.put, List.setIfInBounds_toArray, List.set_cons_zero, List.set_cons_succ]
    refine takeH 2 (some 120) (.slice aoZ N capZ) rfl rfl (by kernel_rfl) (by kernel_rfl) (by kernel_rfl) (fun _ _ _ h => h) (by rfl) trivial (fun w _ => by go_simp <;> first | omega | (rw [IntKind.wrap_i64]; omega)) ?_
    simp only [Act.put, List.setIfInBounds_toArray, List.set_cons_zero, List.set_cons_succ]
    refine takeH 3 (some 121) (.slice aoX N capX) rfl rfl (by kernel_rfl) (by kernel_rfl) (by kernel_rfl) (fun _ _ _ h => h) (by rfl) trivial (fun w _ => by go_simp <;> first | omega | (rw [IntKind.wrap_i64]; omega)) ?_
    simp only [Act.put, List.setIfInBounds_toArray, List.set_cons_zero, List.set_cons_succ]
    refine step1H 4 _ rfl (by kernel_rfl) (by rfl) ?_
    go_simp
    refine (likeLog_same aoZ aoX N capZ capX T' X' (by omega) _ (hrZ11.below (Below.refl wr.heap.size wr).drew (Nat.le_refl _)) (hrX11.below (Below.refl wr.heap.size wr).drew (Nat.le_refl _))).mono ?_
    rintro e w12 ⟨rfl, hb12⟩
    have hA12 := below_next hA11.drew (Nat.le_refl _) hb12
    have hG12 := (hG11.next (Below.refl wr.heap.size wr).drew).next hb12
    have hrX12 := (hrX11.below (Below.refl wr.heap.size wr).drew (Nat.le_refl _)).below hb12 (Nat.le_refl _)
    have hrL12 := (hrL11.below (Below.refl wr.heap.size wr).drew (Nat.le_refl _)).below hb12 (Nat.le_refl _)
    clear hrX11 hrL11 hrZ11 hG11 hb12 hbel
    refine takeH 5 (some 123) (.bool true) rfl rfl (by kernel_rfl) (by kernel_rfl) (by kernel_rfl) (fun _ _ _ h => h) (by rfl) trivial (fun w _ => by go_simp <;> first | omega | (rw [IntKind.wrap_i64]; omega)) ?_
    simp only [Act.put, List.setIfInBounds_toArray, List.set_cons_zero, List.set_cons_succ]
    refine takeH 6 (some 124) (.bool true) rfl rfl (by kernel_rfl) (by kernel_rfl) (by kernel_rfl) (fun _ _ _ h => h) (by rfl) trivial (fun w _ => by go_simp <;> first | omega | (rw [IntKind.wrap_i64]; omega)) ?_
    simp only [Act.put, List.setIfInBounds_toArray, List.set_cons_zero, List.set_cons_succ]
    refine takeH 7 (some 125) (.slice aoX N capX) rfl rfl (by kernel_rfl) (by kernel_rfl) (by kernel_rfl) (fun _ _ _ h => h) (by rfl) trivial (fun w _ => by go_simp <;> first | omega | (rw [IntKind.wrap_i64]; omega)) ?_
    simp only [Act.put, List.setIfInBounds_toArray, List.set_cons_zero, List.set_cons_succ]
    refine takeH 8 (some 126) (.int .i64 (j : Int)) rfl rfl (by kernel_rfl) (by kernel_rfl) (by kernel_rfl) (fun _ _ _ h => h) (by rfl) trivial (fun w _ => by go_simp <;> first | omega | (rw [IntKind.wrap_i64]; omega)) ?_
    simp only [Act.put, List.setIfInBounds_toArray, List.set_cons_zero, List.set_cons_succ]
    refine takeH 9 (some 127) (.slice aoX j capX) rfl rfl (by kernel_rfl) (by kernel_rfl) (by kernel_rfl) (fun _ _ _ h => h) (by rfl) trivial (fun w _ => by go_simp <;> first | omega | (rw [IntKind.wrap_i64]; omega)) ?_
    simp only [Act.put, List.setIfInBounds_toArray, List.set_cons_zero, List.set_cons_succ]
    refine takeH 10 (some 128) (.slice lo k lc) rfl rfl (by kernel_rfl) (by kernel_rfl) (by kernel_rfl) (fun _ _ _ h => h) (by rfl) trivial (fun w _ => by go_simp <;> first | omega | (rw [IntKind.wrap_i64]; omega)) ?_
    simp only [Act.put, List.setIfInBounds_toArray, List.set_cons_zero, List.set_cons_succ]
    refine takeH 11 (some 129) (.int .i64 (j : Int)) rfl rfl (by kernel_rfl) (by kernel_rfl) (by kernel_rfl) (fun _ _ _ h => h) (by rfl) trivial (fun w _ => by go_simp <;> first | omega | (rw [IntKind.wrap_i64]; omega)) ?_
    simp only [Act.put, List.setIfInBounds_toArray, List.set_cons_zero, List.set_cons_succ]
    refine takeH 12 (some 130) (.slice lo j lc) rfl rfl (by kernel_rfl) (by kernel_rfl) (by kernel_rfl) (fun _ _ _ h => h) (by rfl) trivial (fun w _ => by go_simp <;> first | omega | (rw [IntKind.wrap_i64]; omega)) ?_
    simp only [Act.put, List.setIfInBounds_toArray, List.set_cons_zero, List.set_cons_succ]
    refine step1H 13 _ rfl (by kernel_rfl) (by rfl) ?_
    go_simp
    refine (likeLog_same aoX lo j capX lc T' X' (by omega) _ (hrX12.less (by omega)) ((hrL12.less hD.jn).congr (fun x hx => (hD.stays x hx).1.symm) (fun x hx => (hD.stays x hx).2.symm))).mono ?_
    rintro e w13 ⟨rfl, hb13⟩
    have hA13 := below_next hA12 (Nat.le_refl _) hb13
    have hG13 := hG12.next hb13
    have hrX13 := hrX12.below hb13 (Nat.le_refl _)
    clear hrX12 hrL12 hG12 hb13
    refine takeH 14 (some 132) (.bool true) rfl rfl (by kernel_rfl) (by kernel_rfl) (by kernel_rfl) (fun _ _ _ h => h) (by rfl) trivial (fun w _ => by go_simp <;> first | omega | (rw [IntKind.wrap_i64]; omega)) ?_
    simp only [Act.put, List.setIfInBounds_toArray, List.set_cons_zero, List.set_cons_succ]
    refine takeH 15 (some 133) (.bool true) rfl rfl (by kernel_rfl) (by kernel_rfl) (by kernel_rfl) (fun _ _ _ h => h) (by rfl) trivial (fun w _ => by go_simp <;> first | omega | (rw [IntKind.wrap_i64]; omega)) ?_
    simp only [Act.put, List.setIfInBounds_toArray, List.set_cons_zero, List.set_cons_succ]
    refine takeH 16 (some 134) (.slice aoX N capX) rfl rfl (by kernel_rfl) (by kernel_rfl) (by kernel_rfl) (fun _ _ _ h => h) (by rfl) trivial (fun w _ => by go_simp <;> first | omega | (rw [IntKind.wrap_i64]; omega)) ?_
    simp only [Act.put, List.setIfInBounds_toArray, List.set_cons_zero, List.set_cons_succ]
    have hLO := implLogOk_any aoX N capX T' X' aL (by omega) hXX _ hrX13 hG13.L
    rw [hD.log] at hLO
    refine step1H 17 _ rfl (by kernel_rfl) (by rfl) ?_
    go_simp
    refine hLO.mono ?_
    rintro e w14 ⟨rfl, hb14⟩
    have hA14 := below_next hA13 (Nat.le_refl _) hb14
    refine takeH 18 (some 136) (.bool true) rfl rfl (by kernel_rfl) (by kernel_rfl) (by kernel_rfl) (fun _ _ _ h => h) (by rfl) trivial (fun w _ => by go_simp <;> first | omega | (rw [IntKind.wrap_i64]; omega)) ?_
    simp only [Act.put, List.setIfInBounds_toArray, List.set_cons_zero, List.set_cons_succ]
    refine takeH 19 (some 137) (.bool true) rfl rfl (by kernel_rfl) (by kernel_rfl) (by kernel_rfl) (fun _ _ _ h => h) (by rfl) trivial (fun w _ => by go_simp <;> first | omega | (rw [IntKind.wrap_i64]; omega)) ?_
    simp only [Act.put, List.setIfInBounds_toArray, List.set_cons_zero, List.set_cons_succ]
    refine takeH 20 (some 138) (.slice aoX N capX) rfl rfl (by kernel_rfl) (by kernel_rfl) (by kernel_rfl) (fun _ _ _ h => h) (by rfl) trivial (fun w _ => by go_simp <;> first | omega | (rw [IntKind.wrap_i64]; omega)) ?_
    simp only [Act.put, List.setIfInBounds_toArray, List.set_cons_zero, List.set_cons_succ]
    refine takeH 21 (some 139) (.int .i64 (N : Int)) rfl rfl (by kernel_rfl) (by kernel_rfl) (by kernel_rfl) (fun _ _ _ h => h) (by rfl) trivial (fun w _ => by go_simp <;> first | omega | (rw [IntKind.wrap_i64]; omega)) ?_
    simp only [Act.put, List.setIfInBounds_toArray, List.set_cons_zero, List.set_cons_succ]
    refine takeH 22 (some 140) (.slice lo k lc) rfl rfl (by kernel_rfl) (by kernel_rfl) (by kernel_rfl) (fun _ _ _ h => h) (by rfl) trivial (fun w _ => by go_simp <;> first | omega | (rw [IntKind.wrap_i64]; omega)) ?_
    simp only [Act.put, List.setIfInBounds_toArray, List.set_cons_zero, List.set_cons_succ]
    refine takeH 23 (some 141) (.int .i64 (k : Int)) rfl rfl (by kernel_rfl) (by kernel_rfl) (by kernel_rfl) (fun _ _ _ h => h) (by rfl) trivial (fun w _ => by go_simp <;> first | omega | (rw [IntKind.wrap_i64]; omega)) ?_
    simp only [Act.put, List.setIfInBounds_toArray, List.set_cons_zero, List.set_cons_succ]
    by_cases hkN : k ≤ N
    · have hkN2 : (k : Int) ≤ (N : Int) := by omega
      refine takeH 24 (some 142) (.bool true) rfl rfl (by kernel_rfl) (by kernel_rfl) (by kernel_rfl) (fun _ _ _ h => h) (by rfl) trivial (fun w _ => by go_simp <;> first | omega | (rw [IntKind.wrap_i64]; omega)) ?_
      simp only [Act.put, List.setIfInBounds_toArray, List.set_cons_zero, List.set_cons_succ]
      refine takeH 25 (some 143) (.bool true) rfl rfl (by kernel_rfl) (by kernel_rfl) (by kernel_rfl) (fun _ _ _ h => h) (by rfl) trivial (fun w _ => by go_simp <;> first | omega | (rw [IntKind.wrap_i64]; omega)) ?_
      simp only [Act.put, List.setIfInBounds_toArray, List.set_cons_zero, List.set_cons_succ]
      refine skipH 26 (some 144) rfl rfl (by kernel_rfl) (by kernel_rfl) (by kernel_rfl) (fun _ _ _ h => h) (by rfl) trivial ?_
      simp only [Act.put, List.setIfInBounds_toArray, List.set_cons_zero, List.set_cons_succ]
      refine skipH 27 (some 145) rfl rfl (by kernel_rfl) (by kernel_rfl) (by kernel_rfl) (fun _ _ _ h => h) (by rfl) trivial ?_
      simp only [Act.put, List.setIfInBounds_toArray, List.set_cons_zero, List.set_cons_succ]
      refine skipH 28 (some 146) rfl rfl (by kernel_rfl) (by kernel_rfl) (by kernel_rfl) (fun _ _ _ h => h) (by rfl) trivial ?_
      simp only [Act.put, List.setIfInBounds_toArray, List.set_cons_zero, List.set_cons_succ]
      refine skipH 29 (some 147) rfl rfl (by kernel_rfl) (by kernel_rfl) (by kernel_rfl) (fun _ _ _ h => h) (by rfl) trivial ?_
      simp only [Act.put, List.setIfInBounds_toArray, List.set_cons_zero, List.set_cons_succ]
      refine skipH 30 (some 148) rfl rfl (by kernel_rfl) (by kernel_rfl) (by kernel_rfl) (fun _ _ _ h => h) (by rfl) trivial ?_
      simp only [Act.put, List.setIfInBounds_toArray, List.set_cons_zero, List.set_cons_succ]
      refine skipH 31 (some 149) rfl rfl (by kernel_rfl) (by kernel_rfl) (by kernel_rfl) (fun _ _ _ h => h) (by rfl) trivial ?_
      simp only [Act.put, List.setIfInBounds_toArray, List.set_cons_zero, List.set_cons_succ]
      refine skipH 32 (some 150) rfl rfl (by kernel_rfl) (by kernel_rfl) (by kernel_rfl) (fun _ _ _ h => h) (by rfl) trivial ?_
      simp only [Act.put, List.setIfInBounds_toArray, List.set_cons_zero, List.set_cons_succ]
      refine takeH 33 (some 151) (.bool true) rfl rfl (by kernel_rfl) (by kernel_rfl) (by kernel_rfl) (fun _ _ _ h => h) (by rfl) trivial (fun w _ => by go_simp <;> first | omega | (rw [IntKind.wrap_i64]; omega)) ?_
      simp only [Act.put, List.setIfInBounds_toArray, List.set_cons_zero, List.set_cons_succ]
      refine takeH 34 (some 152) (.bool true) rfl rfl (by kernel_rfl) (by kernel_rfl) (by kernel_rfl) (fun _ _ _ h => h) (by rfl) trivial (fun w _ => by go_simp <;> first | omega | (rw [IntKind.wrap_i64]; omega)) ?_
      simp only [Act.put, List.setIfInBounds_toArray, List.set_cons_zero, List.set_cons_succ]
      refine takeH 35 (some 2) (.bool true) rfl rfl (by kernel_rfl) (by kernel_rfl) (by kernel_rfl) (fun _ _ _ h => h) (by rfl) trivial (fun w _ => by go_simp <;> first | omega | (rw [IntKind.wrap_i64]; omega)) ?_
      simp only [Act.put, List.setIfInBounds_toArray, List.set_cons_zero, List.set_cons_succ]
      refine wpAnyH_done (by kernel_rfl) ?_ _
      go_wp2
      go_ret
      exact ⟨rfl, hA14⟩
    · have hkN2 : ¬ (k : Int) ≤ (N : Int) := by omega
      have hNe : N = j + m := by rcases hD.long with h | h <;> omega
      have hNe2 : (N : Int) = (j : Int) + (m : Int) := by omega
      refine takeH 24 (some 142) (.bool false) rfl rfl (by kernel_rfl) (by kernel_rfl) (by kernel_rfl) (fun _ _ _ h => h) (by rfl) trivial (fun w _ => by go_simp <;> first | omega | (rw [IntKind.wrap_i64]; omega)) ?_
      simp only [Act.put, List.setIfInBounds_toArray, List.set_cons_zero, List.set_cons_succ]
      refine takeH 25 (some 143) (.bool false) rfl rfl (by kernel_rfl) (by kernel_rfl) (by kernel_rfl) (fun _ _ _ h => h) (by rfl) trivial (fun w _ => by go_simp <;> first | omega | (rw [IntKind.wrap_i64]; omega)) ?_
      simp only [Act.put, List.setIfInBounds_toArray, List.set_cons_zero, List.set_cons_succ]
      refine takeH 26 (some 144) (.slice aoX N capX) rfl rfl (by kernel_rfl) (by kernel_rfl) (by kernel_rfl) (fun _ _ _ h => h) (by rfl) trivial (fun w _ => by go_simp <;> first | omega | (rw [IntKind.wrap_i64]; omega)) ?_
      simp only [Act.put, List.setIfInBounds_toArray, List.set_cons_zero, List.set_cons_succ]
      refine takeH 27 (some 145) (.int .i64 (N : Int)) rfl rfl (by kernel_rfl) (by kernel_rfl) (by kernel_rfl) (fun _ _ _ h => h) (by rfl) trivial (fun w _ => by go_simp <;> first | omega | (rw [IntKind.wrap_i64]; omega)) ?_
      simp only [Act.put, List.setIfInBounds_toArray, List.set_cons_zero, List.set_cons_succ]
      refine takeH 28 (some 146) (.int .i64 (j : Int)) rfl rfl (by kernel_rfl) (by kernel_rfl) (by kernel_rfl) (fun _ _ _ h => h) (by rfl) trivial (fun w _ => by go_simp <;> first | omega | (rw [IntKind.wrap_i64]; omega)) ?_
      simp only [Act.put, List.setIfInBounds_toArray, List.set_cons_zero, List.set_cons_succ]
      refine takeH 29 (some 147) (.slice eo m ec) rfl rfl (by kernel_rfl) (by kernel_rfl) (by kernel_rfl) (fun _ _ _ h => h) (by rfl) trivial (fun w _ => by go_simp <;> first | omega | (rw [IntKind.wrap_i64]; omega)) ?_
      simp only [Act.put, List.setIfInBounds_toArray, List.set_cons_zero, List.set_cons_succ]
      refine takeH 30 (some 148) (.int .i64 (m : Int)) rfl rfl (by kernel_rfl) (by kernel_rfl) (by kernel_rfl) (fun _ _ _ h => h) (by rfl) trivial (fun w _ => by go_simp <;> first | omega | (rw [IntKind.wrap_i64]; omega)) ?_
      simp only [Act.put, List.setIfInBounds_toArray, List.set_cons_zero, List.set_cons_succ]
      refine takeH 31 (some 149) (.int .i64 ((j : Int) + (m : Int))) rfl rfl (by kernel_rfl) (by kernel_rfl) (by kernel_rfl) (fun _ _ _ h => h) (by rfl) trivial (fun w _ => by go_simp <;> first | omega | (rw [IntKind.wrap_i64]; omega)) ?_
      simp only [Act.put, List.setIfInBounds_toArray, List.set_cons_zero, List.set_cons_succ]
      refine takeH 32 (some 150) (.bool true) rfl rfl (by kernel_rfl) (by kernel_rfl) (by kernel_rfl) (fun _ _ _ h => h) (by rfl) trivial (fun w _ => by go_simp <;> first | omega | (rw [IntKind.wrap_i64]; omega)) ?_
      simp only [Act.put, List.setIfInBounds_toArray, List.set_cons_zero, List.set_cons_succ]
      refine takeH 33 (some 151) (.bool true) rfl rfl (by kernel_rfl) (by kernel_rfl) (by kernel_rfl) (fun _ _ _ h => h) (by rfl) trivial (fun w _ => by go_simp <;> first | omega | (rw [IntKind.wrap_i64]; omega)) ?_
      simp only [Act.put, List.setIfInBounds_toArray, List.set_cons_zero, List.set_cons_succ]
      refine takeH 34 (some 152) (.bool true) rfl rfl (by kernel_rfl) (by kernel_rfl) (by kernel_rfl) (fun _ _ _ h => h) (by rfl) trivial (fun w _ => by go_simp <;> first | omega | (rw [IntKind.wrap_i64]; omega)) ?_
      simp only [Act.put, List.setIfInBounds_toArray, List.set_cons_zero, List.set_cons_succ]
      refine takeH 35 (some 2) (.bool true) rfl rfl (by kernel_rfl) (by kernel_rfl) (by kernel_rfl) (fun _ _ _ h => h) (by rfl) trivial (fun w _ => by go_simp <;> first | omega | (rw [IntKind.wrap_i64]; omega)) ?_
      simp only [Act.put, List.setIfInBounds_toArray, List.set_cons_zero, List.set_cons_succ]
      refine wpAnyH_done (by kernel_rfl) ?_ _
      go_wp2
      go_ret
      exact ⟨rfl, hA14⟩

theorem star : "*" ++ "errors.errorString" = "*errors.errorString" := by decide
theorem rowErr (u : TypeId) (h : Tryd.prog.typeName? 3 u = some "*errors.errorString") : u = 177 :=
  typeName_ptr_named (nm := "errors.errorString") (by rw [star]; kernel_rfl) (by kernel_rfl) (by decide) u (by rw [star]; exact h)
theorem Tryd.et : Tryd.prog.globalNamed "errors.errorType" = some 3 := by kernel_rfl
theorem Tryd.rt : (Tryd.prog.cutTypes.find? (·.1 == "internal/reflectlite.rtype")).map (·.2) = some 130 := by kernel_rfl
theorem Tryd.oneRow : ((List.range (316 - 100)).filter fun t => Tryd.prog.rowNamed t [101, 114, 114, 111, 114]) = [77] := by kernel_rfl
theorem Tryd.typesSize : Tryd.prog.types.size = 316 - 100 := by kernel_rfl
theorem merge_parts {W : World} (h : laidMetH Tryd.prog Rows.fnMergedRow.laid W) : laidMet Tryd.prog [("loop.example/g00161/impl.errNoLog", Rows.laid_loop_example_g00161_impl_errNoLog), ("loop.example/g00161/impl.errNoEntry", Rows.laid_loop_example_g00161_impl_errNoEntry), ("loop.example/g00161/impl.errOtherTerm", Rows.laid_loop_example_g00161_impl_errOtherTerm)] W ∧ handlesMet Tryd.prog [("errors.errorType", Rows.laid_errors_errorType)] W := h
theorem handle_of {W : World} (h : handlesMet Tryd.prog [("errors.errorType", Rows.laid_errors_errorType)] W) : W.cell? ⟨3, 0, none⟩ = some (.iface 130 (.agg #[hdl 77])) := by
  obtain ⟨name, u, ty, e1, e2, e3, e4, e5⟩ := h _ (List.mem_singleton.2 rfl)
  have en : name = [101, 114, 114, 111, 114] := (Option.some.inj e1).symm
  subst en
  obtain rfl := Option.some.inj (Tryd.rt.symm.trans e2)
  have hm : ty ∈ (List.range (316 - 100)).filter fun t => Tryd.prog.rowNamed t [101, 114, 114, 111, 114] := List.mem_filter.2 ⟨List.mem_range.2 (by rw [← Tryd.typesSize]; exact e3), e4⟩
  rw [Tryd.oneRow] at hm
  obtain rfl := List.mem_singleton.1 hm
  have hh : typeHandle Tryd.prog 77 = hdl 77 := by kernel_rfl
  rw [hh] at e5
  simpa using World.var?_cell Tryd.et e5 0
theorem merge_door (os : Os) (args : Array Value) : laidMetH Tryd.prog Rows.fnMergedRow.laid ((World.doorLaid Tryd.prog 4000 os).forCall (fun _ _ => 0) ⟨#[], args, []⟩).memory :=
  laidMetH_of_parts (laidMet_of_run3 8 (by kernel_rfl) (by kernel_rfl) (by kernel_rfl)) (by kernel_rfl)

set_option maxRecDepth 100000 in
theorem lawFnMerged_lifted (os : Os) (started : os.Started) (H : Type) (enc : TypeId × Value → H) :
    ReturnsInHanded {} Tryd.checked os 4 .any (fun w args => (Rows.fnMergedSpec.pre enc Tryd.prog Tryd.f4 [] false w args ∧ laidMetH Tryd.prog Rows.fnMergedRow.laid w) ∧ sizedMet enc Tryd.prog Tryd.f4 (OpenSpec.ofChange Rows.fnMergedSpec) false w args)
      (Rows.fnMergedSpec.post enc Tryd.prog Tryd.f4 false true false false) := by
  refine returnsInHanded_of_change_and (C := Tryd.checked) (X := fun w _ => laidMetH Tryd.prog Rows.fnMergedRow.laid w) (fun _ _ _ hh h => h.of_heap hh) Tryd.own started (by kernel_rfl) Tryd.func4
    (ChangeSpec.witness_shaped (enc := enc) (C := Tryd.checked) (os := os) (X := fun w _ => laidMetH Tryd.prog Rows.fnMergedRow.laid w) false (World.doorLaid Tryd.prog 4000 os) #[.slice none 0 0] 8 rfl (World.shaped_of_RefB (by kernel_rfl) (by kernel_rfl)) (by kernel_rfl) (by kernel_rfl) (by kernel_rfl) (merge_door os _)) ?_
  intro W base args ds gs before hval0 hW _ _ hL0 _
  have hval : ∀ (j : Nat) t v, Tryd.f4.params[j]? = some t → args[j]? = some v → Value.okWide Tryd.prog W .any base t v := hval0
  obtain ⟨hL, hH0⟩ := merge_parts hL0
  have cH := handle_of hH0
  obtain ⟨aL, saL, haL, _⟩ := laid_sentinel hL (show Tryd.prog.globalNamed "loop.example/g00161/impl.errNoLog" = some 1 by kernel_rfl) (show (Tryd.prog.globals[1]?).map (·.type) = some 77 by kernel_rfl) Tryd.underlying77 rowErr (tp := 177) (te := 197) (ts := 9) Tryd.underlying177 Tryd.underlying197 rfl rfl Tryd.underlying9 (by kernel_rfl) (by kernel_rfl)
  have caL : W.cell? ⟨1, 0, none⟩ = some (.iface 177 (.pointer (some aL))) := by simpa using World.var?_cell (show Tryd.prog.globalNamed "loop.example/g00161/impl.errNoLog" = some 1 by kernel_rfl) haL 0
  obtain ⟨aE, saE, haE, _⟩ := laid_sentinel hL.tail (show Tryd.prog.globalNamed "loop.example/g00161/impl.errNoEntry" = some 0 by kernel_rfl) (show (Tryd.prog.globals[0]?).map (·.type) = some 77 by kernel_rfl) Tryd.underlying77 rowErr (tp := 177) (te := 197) (ts := 9) Tryd.underlying177 Tryd.underlying197 rfl rfl Tryd.underlying9 (by kernel_rfl) (by kernel_rfl)
  have caE : W.cell? ⟨0, 0, none⟩ = some (.iface 177 (.pointer (some aE))) := by simpa using World.var?_cell (show Tryd.prog.globalNamed "loop.example/g00161/impl.errNoEntry" = some 0 by kernel_rfl) haE 0
  obtain ⟨aO, saO, haO, _⟩ := laid_sentinel hL.tail.tail (show Tryd.prog.globalNamed "loop.example/g00161/impl.errOtherTerm" = some 2 by kernel_rfl) (show (Tryd.prog.globals[2]?).map (·.type) = some 77 by kernel_rfl) Tryd.underlying77 rowErr (tp := 177) (te := 197) (ts := 9) Tryd.underlying177 Tryd.underlying197 rfl rfl Tryd.underlying9 (by kernel_rfl) (by kernel_rfl)
  have caO : W.cell? ⟨2, 0, none⟩ = some (.iface 177 (.pointer (some aO))) := by simpa using World.var?_cell (show Tryd.prog.globalNamed "loop.example/g00161/impl.errOtherTerm" = some 2 by kernel_rfl) haO 0
  have hW' := hW
  obtain ⟨p, q, hA0, hV0, rfl, hfz, hnd⟩ := hW
  have hA : DataW.TrodAll enc Tryd.prog W 0 (fun _ => true) true Tryd.f4.params.toList args.toList ds p := hA0
  have hV : DataW.TrodVars enc Tryd.prog W (fun _ => true) ["loop.example/g00161/impl.errNoEntry", "loop.example/g00161/impl.errNoLog", "loop.example/g00161/impl.errOtherTerm"] gs q := hV0
  rw [Tryd.params4] at hA hval
  obtain ⟨v0, vs0, d0, ds0, p0, q0, hargs, rfl, rfl, h0, r0⟩ := trodAll_cons hA
  obtain ⟨rfl, rfl, rfl⟩ := trodAll_nil r0
  obtain rfl : args = #[v0] := by cases args; simp_all
  have hVk := hV
  obtain ⟨g0, g1, g2, rfl⟩ : ∃ g0 g1 g2, gs = [g0, g1, g2] := vars_shape3 hV
  have k0 := h0
  have lt0 : ∀ x ∈ p0, x.block < W.heap.size := by obtain ⟨m, hm⟩ := k0; exact DataW.trod_lt m _ _ _ hm
  obtain ⟨b1, l1, c1', rfl⟩ := okWide_slice Tryd.underlying22 (hval 0 22 v0 rfl rfl)
  obtain ⟨f0, hf0⟩ := h0
  obtain ⟨ao2, m2, cap2, e2, hm2, hr2⟩ := open_bytes hf0
  simp [Value.cells] at e2
  obtain ⟨rfl, rfl, rfl⟩ := e2
  clear hA0 hV0 hval0
  refine (lawFnMerged_walk b1 l1 c1' aE aL aO hm2 W hr2 ⟨caE, caL, caO, cH⟩).mono fun e W' ⟨he, bel⟩ => ?_
  subst he
  exact ⟨_, rfl, _, _, _, [], _, _, hW', trodAll_mk1 (shut_bool Tryd.underlying4 _), (trodAll_cons_mk (Below.trod Tryd.laidOut (by kernel_rfl) (of_decide_eq_true (by kernel_rfl)) k0 bel lt0) trodAll_mk0), Below.trodVars Tryd.laidOut bel (by kernel_rfl) hVk, bel.frame _, fun h => by cases h⟩

theorem fnMerged_row : Rows.FnMergedSaid :=
  OpenClaim.holds_of_wide 4 Tryd.f4 rfl rfl rfl rfl rfl rfl rfl ⟨rfl, rfl, rfl, rfl, rfl⟩ rfl rfl rfl rfl rfl (by kernel_rfl) Tryd.func4 (by kernel_rfl)
    (of_decide_eq_true (by kernel_rfl)) (by unfold Func.isWrapper; first | (rw [if_pos (by decide +kernel)]; kernel_rfl) | (rw [if_neg (by decide +kernel)]; exact ⟨rfl, rfl⟩))
    (fun os started H enc _ => lawFnMerged_lifted os started H enc)

theorem fnMerged_holds : Rows.FnMergedCardSaid :=
  Claim7.holds_tied_plain_at .later [] [.handle, .sentinel, .sentinel, .sentinel] true Rows.fnMergedCard.stood.harness true
    fnMerged_row (fun _ h => by cases h) (by kernel_rfl) (fun _ h => by cases h) fnMerged_row_tie rfl ⟨rfl, rfl⟩ (by kernel_rfl) rfl
    (fun f fn hf hfn => by
      obtain rfl : f = 4 := Option.some.inj ((show Tryd.prog.funcNamed Rows.fnMergedRow.func = some 4 by kernel_rfl).symm.trans hf) |>.symm
      obtain rfl : fn = Tryd.f4 := (Option.some.inj (Tryd.func4.symm.trans hfn)).symm
      exact ⟨by kernel_rfl, fun j t ht => by
        rw [Tryd.params4] at ht
        have hm : t ∈ [22] := by simpa using Array.mem_of_getElem? ht
        have hall : ([22].all fun u => !Tryd.prog.wantsStandIn u) = true := by kernel_rfl
        exact (show Tryd.prog.wantsStandIn t = false by simpa using List.all_eq_true.1 hall t hm)⟩)
    (by kernel_rfl)
#print axioms fnMerged_holds

end Go.Proofs.YtcmeppjfjledfacDoor
