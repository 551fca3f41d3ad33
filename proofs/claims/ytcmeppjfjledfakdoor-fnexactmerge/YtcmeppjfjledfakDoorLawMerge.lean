/-
  Proved: at all lists of entries and every number the law FnExactMerge answers true, and its arguments and the variables that it names read behind the call as they read before; what these variables read as is tied to the program's text. No condition.
-/
import Derived.Test.YtcmeppjfjledfakDoorMrgS
import Derived.Test.YtcmeppjfjledfakDoorEntLaw
import Derived.Test.YtcmeppjfjledfakDoorEntMark
import Derived.Test.YtcmeppjfjledfakDoorTie
import Derived.Test.YtcmeppjfjledfakDoorCards
import Derived.ProofKit
import Derived.LaidMore
import Derived.OpenShut
import Derived.OpenVars
import Derived.ChangeVars
import Derived.Stop.Joined
import Derived.Stop.LaidErr
import Derived.ChangeMaps5
import Derived.Shelf.Vars
import Derived.Handed
import Derived.LaidHandle
import Derived.Deep.DeepLaidRun
import Derived.Lay
import Derived.SevenTiedAt
set_option linter.unusedVariables false
set_option linter.unusedSimpArgs false
namespace Go.Proofs.YtcmeppjfjledfakDoor
open Go.ChangeShapes Go.WideShapes Go.ChangeAt Go.RowKit Go.Deep Go.Joins
attribute [local go_sem ↓] Go.wp_at_zero Go.wp_at_succ

theorem vars_shape1 {H : Type} {enc : TypeId × Value → H} {P : Program} {w : World} {sp : Nat → Bool} {a : String} {gs : List (DataW H)} {q : List MemPlace} (h : DataW.TrodVars enc P w sp [a] gs q) : ∃ g0, gs = [g0] := by
  match gs, h with
  | [], h => exact h.elim
  | [g0], _ => exact ⟨g0, rfl⟩
  | _ :: _ :: _, h =>
    obtain ⟨_, _, _, _, _, _, _, _, _, _, hs, _⟩ := h
    exact hs.elim
theorem vars_shape3 {H : Type} {enc : TypeId × Value → H} {P : Program} {w : World} {sp : Nat → Bool} {a b c : String} {gs : List (DataW H)} {q : List MemPlace} (h : DataW.TrodVars enc P w sp [a, b, c] gs q) : ∃ g0 g1 g2, gs = [g0, g1, g2] := by
  match gs, h with
  | [], h => exact h.elim
  | g0 :: gs, h =>
    obtain ⟨_, _, _, _, _, _, _, _, _, _, hs, _⟩ := h
    match gs, hs with
    | [], hs => exact hs.elim
    | g1 :: gs, hs =>
      obtain ⟨_, _, _, _, _, _, _, _, _, _, ht, _⟩ := hs
      obtain ⟨g2, rfl⟩ := vars_shape1 ht
      exact ⟨g0, g1, g2, rfl⟩

/-- What the walk carries: the document's answer in block gw, the program's in block bg. -/
structure ND (W0 W : World) (N : Nat) (T : Nat → Int) (X : Nat → ByteArray) (T' : Nat → Int) (X' : Nat → ByteArray) (gw bg : Nat) : Prop where
  hA : Below W0.heap.size W0 W
  doc : 0 < N → NHas W gw N T X
  own : 0 < N → NHas W bg N T' X'
theorem ND.next {W0 W W' : World} {N : Nat} {T T' : Nat → Int} {X X' : Nat → ByteArray} {gw bg : Nat} (h : ND W0 W N T X T' X' gw bg) (hb : Below W.heap.size W W') : ND W0 W' N T X T' X' gw bg :=
  ⟨below_next h.hA (Nat.le_refl _) hb, fun hm => (h.doc hm).below hb (h.doc hm).lt, fun hm => (h.own hm).below hb (h.own hm).lt⟩
theorem ND.aside {W0 W W' : World} {N b : Nat} {T T' : Nat → Int} {X X' : Nat → ByteArray} {gw bg : Nat} (h : ND W0 W N T X T' X' gw bg) (hg : W.grownBy W' (some b)) (hb : W0.heap.size ≤ b) (h1 : 0 < N → gw ≠ b) (h2 : 0 < N → bg ≠ b) : ND W0 W' N T X T' X' gw bg :=
  ⟨h.hA.trans (gr_below hg hb h.hA.size), fun hm => (h.doc hm).grown hg (by simp; exact h1 hm), fun hm => (h.own hm).grown hg (by simp; exact h2 hm)⟩
theorem ND.marked {W0 W W' : World} {N : Nat} {T T' T'' : Nat → Int} {X X' X'' : Nat → ByteArray} {gw bg : Nat} (h : ND W0 W N T X T' X' gw bg) (hg : W.grownBy W' (some bg)) (hn : 0 < N → NHas W' bg N T'' X'') (hb : W0.heap.size ≤ bg) (h1 : 0 < N → gw ≠ bg) : ND W0 W' N T X T'' X'' gw bg :=
  ⟨h.hA.trans (gr_below hg hb h.hA.size), fun hm => (h.doc hm).grown hg (by simp; exact h1 hm), hn⟩
theorem nrow_of {W : World} {ao : Option Addr} {N g : Nat} {T : Nat → Int} {X : Nat → ByteArray} (h : 0 < N → ao = some ⟨g, 0, none⟩) (ho : 0 < N → NHas W g N T X) : NRow W ao N T X := fun k hk => by
  rw [h (by omega)]
  exact nhas_row (ho (by omega)) k hk
theorem mLen_le (n : Nat) (T : Nat → Int) (X : Nat → ByteArray) (i : Int) (m : Nat) (U : Nat → Int) (Y : Nat → ByteArray) : mLen n T X i m U Y ≤ 200 := by
  unfold mLen
  split
  · rename_i h
    unfold mOk at h
    simp only [Bool.and_eq_true] at h
    exact (logB_at h.2.2.2).1
  · omega
/-- The answer's block. -/
theorem NOwn.block {w w' : World} {ao : Option Addr} {N : Nat} {T : Nat → Int} {X : Nat → ByteArray} (h : NOwn w w' ao N T X) (hs : w.heap.size ≤ w'.heap.size) : ∃ g, (0 < N → ao = some ⟨g, 0, none⟩) ∧ w.heap.size ≤ g ∧ (0 < N → g < w'.heap.size) ∧ (0 < N → NHas w' g N T X) := by
  by_cases h0 : 0 < N
  · obtain ⟨g, e, hg, hI⟩ := h h0
    exact ⟨g, fun _ => e, hg, fun _ => hI.lt, fun _ => hI⟩
  · exact ⟨w.heap.size, fun h => absurd h h0, Nat.le_refl _, fun h => absurd h h0, fun h => absurd h h0⟩
theorem hid {p : Prop} (h : p) : Hid p := h

set_option maxHeartbeats 8000000 in
theorem lawMerge_walk (ao : Option Addr) (n cap : Nat) (T : Nat → Int) (X : Nat → ByteArray) (i : Int) (bo : Option Addr) (m bcap : Nat) (U : Nat → Int) (Y : Nat → ByteArray) (aE aL aO : Addr) (hn : n ≤ maxLen) (hX : ∀ k, k < n → (X k).size ≤ maxLen) (hm : m ≤ maxLen) (hY : ∀ k, k < m → (Y k).size ≤ maxLen) (w : World) (hr : NRow w ao n T X) (hs : NRow w bo m U Y) (hE : w.cell? ⟨0, 0, none⟩ = some (vE aE)) (hL : w.cell? ⟨1, 0, none⟩ = some (vE aL)) (hO : w.cell? ⟨3, 0, none⟩ = some (vE aO)) (hT : w.cell? ⟨2, 0, none⟩ = some (.iface 68 (.agg #[hdl 39]))) :
    Calls Tryd.prog 3 #[.slice ao n cap, .int .i64 i, .slice bo m bcap] w fun e w' => e = .returned (.bool true) ∧ Below w.heap.size w w' := by
  unfold maxLen at hn hX hm hY
  go_enter Tryd.func3, Tryd.ntmps3
  go_wp2_with fail
  refine (szEntryS_any ao n cap T X 1048576 (by omega) (by omega) (by omega) (fun k hk => by have := hX k hk; omega) _ hr).mono ?_
  rintro e w0 ⟨r, rfl, hr1, hr2, hr3, hb0⟩
  by_cases hneg : r < 0
  · go_wp2
    go_ret
    exact ⟨rfl, hb0⟩
  obtain ⟨hnl, hrl, hX0⟩ := hr1 (by omega)
  go_wp2_with fail
  refine (szEntryS_any bo m bcap U Y r (by omega) (by omega) (by omega) (fun k hk => by have := hY k hk; omega) _ (hs.below hb0 (Nat.le_refl _))).mono ?_
  rintro e w00 ⟨r9, rfl, hs1, hs2, hs3, hb00⟩
  have hA0 := below_next hb0 (Nat.le_refl _) hb00
  by_cases hneg9 : r9 < 0
  · go_wp2
    go_ret
    exact ⟨rfl, hA0⟩
  obtain ⟨hml, _, hY0⟩ := hs1 (by omega)
  have hX1 : ∀ k, k < n → (X k).size ≤ 1048576 := fun k hk => by have := hX0 k hk; omega
  have hY1 : ∀ k, k < m → (Y k).size ≤ 1048576 := fun k hk => by have := hY0 k hk; omega
  have hn' : n ≤ 1048576 := by omega
  have hm' : m ≤ 1048576 := by omega
  clear hX hr1 hX0 hY hs1 hY0 hb00 hb0 hnl hrl hml hr2 hr3 hs2 hs3
  have hSP := fun ao' cap' bo' bcap' h1 h2 W h3 h4 => specMerge_any ao' n cap' T X i bo' m bcap' U Y hn' h1 hm' h2 hX1 hY1 W h3 h4
  have hIM := fun ao' cap' bo' bcap' h1 h2 W h3 h4 h5 h6 h7 h8 => implMerge_any ao' n cap' T X i bo' m bcap' U Y aE aL aO hn' h1 hm' h2 hX1 hY1 W h3 h4 h5 h6 h7 h8
  unfold MAnsN at hSP hIM
  have hN := mLen_le n T X i m U Y
  generalize mLen n T X i m U Y = N at hSP hIM hN
  generalize mOk n T X i m U Y = q at hSP hIM
  generalize mV m (agN n T i.toNat m U) i.toNat T U = T' at hSP hIM
  generalize mV m (agN n T i.toNat m U) i.toNat X Y = X' at hSP hIM
  have HSP := hid hSP
  have HIM := hid hIM
  clear hSP hIM hX1 hY1
  have cp1 := fun W h => toEntryS_any ao n cap T X hn' W h
  have cp2 := fun W h => toEntryS_any bo m bcap U Y hm' W h
  go_wp2_with fail
  refine (cp1 _ (hr.below hA0 (Nat.le_refl _))).mono ?_
  rintro e w1 ⟨rfl, hx1, hb1⟩
  have hA1 := below_next hA0 (Nat.le_refl _) hb1
  go_wp2_with fail
  refine (cp2 _ (hs.below hA1 (Nat.le_refl _))).mono ?_
  rintro e w2 ⟨rfl, hy2, hb2⟩
  have hA2 := below_next hA1 (Nat.le_refl _) hb2
  have hx2 := hx1.below hb2 hx1.lt
  go_wp2_with fail
  refine (HSP.out _ _ _ _ (Nat.le_refl _) (Nat.le_refl _) _ (nhas_row hx2) (nhas_row hy2)).mono ?_
  rintro e w3 ⟨aoW, capW, rfl, hW, hb3⟩
  have hA3 := below_next hA2 (Nat.le_refl _) hb3
  have hs03 := hA3.size
  obtain ⟨gw, hgw1, hgw2, hgw3, hgw4⟩ := hW.block hb3.size
  clear hx1 hx2 hy2 hW hb1 hb2 hb3
  go_wp2_with fail
  refine (cp1 _ (hr.below hA3 (Nat.le_refl _))).mono ?_
  rintro e w4 ⟨rfl, hx4, hb4⟩
  have hA4 := below_next hA3 (Nat.le_refl _) hb4
  go_wp2_with fail
  refine (cp2 _ (hs.below hA4 (Nat.le_refl _))).mono ?_
  rintro e w5 ⟨rfl, hy5, hb5⟩
  have hA5 := below_next hA4 (Nat.le_refl _) hb5
  have hx5 := hx4.below hb5 hx4.lt
  have hgw5 : 0 < N → NHas w5 gw N T' X' := fun h => ((hgw4 h).below hb4 (hgw4 h).lt).below hb5 (Nat.lt_of_lt_of_le (hgw4 h).lt hb4.size)
  have hs34 := hb4.size
  have hs45 := hb5.size
  have hl4 := hx4.lt
  have hl5 := hy5.lt
  have keep : ∀ {g : Nat} {v : Value}, w.cell? ⟨g, 0, none⟩ = some v → w5.cell? ⟨g, 0, none⟩ = some v := fun h => by rw [hA5.cell (lt_of_cell h)]; exact h
  clear hgw4 hb4 hb5 hx4
  go_wp2_with fail
  refine (HIM.out _ _ _ _ (Nat.le_refl _) (Nat.le_refl _) _ (nhas_row hx5) (nhas_row hy5) (keep hE) (keep hL) (keep hO) (keep hT)).mono ?_
  rintro e w6 ⟨aoG, capG, rfl, hG, hb6⟩
  have hA6 := below_next hA5 (Nat.le_refl _) hb6
  obtain ⟨bg, hbg1, hbg2, hbg3, hbg4⟩ := hG.block hb6.size
  have hx6 := hx5.below hb6 hx5.lt
  have hy6 := hy5.below hb6 hy5.lt
  have hS : ND w w6 N T' X' T' X' gw bg := ⟨hA6, fun h => (hgw5 h).below hb6 (hgw5 h).lt, hbg4⟩
  have hs56 := hb6.size
  clear hG hb6 hgw5 hbg4 hx5 hy5 hA6 keep
  go_wp2_with fail
  refine (eqEntryS_same aoG aoW N capG capW T' X' (by omega) _ (nrow_of hbg1 hS.own) (nrow_of hgw1 hS.doc)).mono ?_
  rintro e w7 ⟨rfl, hb7⟩
  replace hS := hS.next hb7
  have hx7 := hx6.below hb7 hx6.lt
  have hy7 := hy6.below hb7 hy6.lt
  clear hx6 hy6 hb7
  go_wp2_with fail
  refine (cp1 _ (hr.below hS.hA (Nat.le_refl _))).mono ?_
  rintro e w8 ⟨rfl, hz8, hb8⟩
  replace hS := hS.next hb8
  have hx8 := hx7.below hb8 hx7.lt
  have hy8 := hy7.below hb8 hy7.lt
  clear hx7 hy7 hb8
  go_wp2_with fail
  refine (eqEntryS_same _ _ n n n T X hn' _ (nhas_row hx8) (nhas_row hz8)).mono ?_
  rintro e w9 ⟨rfl, hb9⟩
  replace hS := hS.next hb9
  have hx9 := hx8.below hb9 hx8.lt
  have hy9 := hy8.below hb9 hy8.lt
  clear hx8 hy8 hz8 hb9
  go_wp2_with fail
  refine (cp2 _ (hs.below hS.hA (Nat.le_refl _))).mono ?_
  rintro e w10 ⟨rfl, hz10, hb10⟩
  replace hS := hS.next hb10
  have hx10 := hx9.below hb10 hx9.lt
  have hy10 := hy9.below hb10 hy9.lt
  clear hx9 hy9 hb10
  go_wp2_with fail
  refine (eqEntryS_same _ _ m m m U Y hm' _ (nhas_row hy10) (nhas_row hz10)).mono ?_
  rintro e w11 ⟨rfl, hb11⟩
  replace hS := hS.next hb11
  have hx11 := hx10.below hb11 hx10.lt
  have hy11 := hy10.below hb11 hy10.lt
  clear hx10 hy10 hz10 hb11
  have hm1 := fun W h => markEntryS_any w3.heap.size n n T X 1 (by omega) (by omega) W (fun _ => h) _ (fun _ => rfl)
  go_wp2_with fail
  refine (hm1 _ hx11).mono ?_
  rintro e w12 ⟨rfl, _, hg12⟩
  have hy12 := hy11.grown hg12 (by simp; omega)
  replace hS := hS.aside hg12 (by omega) (fun h => by have := hgw3 h; omega) (fun h => by omega)
  clear hx11 hy11 hg12 hm1
  have hm2 := fun W h => markEntryS_any w4.heap.size m m U Y (1 + 2 * n) (by omega) (by omega) W (fun _ => h) _ (fun _ => rfl)
  go_wp2_with fail
  refine (hm2 _ hy12).mono ?_
  rintro e w13 ⟨rfl, _, hg13⟩
  replace hS := hS.aside hg13 (by omega) (fun h => by have := hgw3 h; omega) (fun h => by omega)
  clear hy12 hg13 hm2
  have hk13 : ¬ (((1 + 2 * n + 2 * m : Nat) : Int)) < 0 := by omega
  go_wp2_with fail
  refine (eqEntryS_same aoG aoW N capG capW T' X' (by omega) _ (nrow_of hbg1 hS.own) (nrow_of hgw1 hS.doc)).mono ?_
  rintro e w14 ⟨rfl, hb14⟩
  replace hS := hS.next hb14
  clear hb14
  have hm3 := fun W h => markEntryS_any bg N capG T' X' 1 (by omega) (by omega) W h aoG hbg1
  go_wp2_with fail
  refine (hm3 _ hS.own).mono ?_
  rintro e w15 ⟨rfl, hm15, hg15⟩
  replace hS := hS.marked hg15 hm15 (by omega) (fun h => by have := hgw3 h; omega)
  clear hm15 hg15 hm3
  have hh1 := fun W h => heldEntryS_any bg N capG 1 (by omega) (by omega) W h aoG hbg1
  have hk15 : ¬ (((1 + 2 * N : Nat) : Int)) < 0 := by omega
  go_wp2_with fail
  refine (hh1 _ hS.own).mono ?_
  rintro e w16 ⟨rfl, hb16⟩
  replace hS := hS.next hb16
  clear hb16
  go_wp2_with fail
  refine (cp1 _ (hr.below hS.hA (Nat.le_refl _))).mono ?_
  rintro e w17 ⟨rfl, hx17, hb17⟩
  replace hS := hS.next hb17
  clear hb17
  go_wp2_with fail
  refine (cp2 _ (hs.below hS.hA (Nat.le_refl _))).mono ?_
  rintro e w18 ⟨rfl, hy18, hb18⟩
  replace hS := hS.next hb18
  have hx18 := hx17.below hb18 hx17.lt
  have hA18 := hS.hA
  have keep : ∀ {g : Nat} {v : Value}, w.cell? ⟨g, 0, none⟩ = some v → w18.cell? ⟨g, 0, none⟩ = some v := fun h => by rw [hA18.cell (lt_of_cell h)]; exact h
  clear hx17 hb18
  go_wp2_with fail
  refine (HIM.out _ _ _ _ (Nat.le_refl _) (Nat.le_refl _) _ (nhas_row hx18) (nhas_row hy18) (keep hE) (keep hL) (keep hO) (keep hT)).mono ?_
  rintro e w19 ⟨aoH, capH, rfl, hH, hb19⟩
  replace hS := hS.next hb19
  have hrowH := hH.row
  clear hH hb19 hx18 hy18 keep hA18
  go_wp2_with fail
  refine (eqEntryS_same aoH aoW N capH capW T' X' (by omega) _ hrowH (nrow_of hgw1 hS.doc)).mono ?_
  rintro e w20 ⟨rfl, hb20⟩
  replace hS := hS.next hb20
  clear hb20 hrowH
  go_wp2_with fail
  refine (hh1 _ hS.own).mono ?_
  rintro e w21 ⟨rfl, hb21⟩
  replace hS := hS.next hb21
  go_wp2
  go_ret
  exact ⟨rfl, hS.hA⟩

theorem star : "*" ++ "errors.errorString" = "*errors.errorString" := by decide
theorem rowErr (u : TypeId) (h : Tryd.prog.typeName? 3 u = some "*errors.errorString") : u = 125 :=
  typeName_ptr_named (nm := "errors.errorString") (by rw [star]; kernel_rfl) (by kernel_rfl) (by decide) u (by rw [star]; exact h)
theorem Tryd.et : Tryd.prog.globalNamed "errors.errorType" = some 2 := by kernel_rfl
theorem Tryd.rt : (Tryd.prog.cutTypes.find? (·.1 == "internal/reflectlite.rtype")).map (·.2) = some 68 := by kernel_rfl
theorem Tryd.oneRow : ((List.range (270 - 100)).filter fun t => Tryd.prog.rowNamed t [101, 114, 114, 111, 114]) = [39] := by kernel_rfl
theorem Tryd.typesSize : Tryd.prog.types.size = 270 - 100 := by kernel_rfl
theorem merge_parts {W : World} (h : laidMetH Tryd.prog Rows.fnExactMergeRow.laid W) : laidMet Tryd.prog [("loop.example/g00161/impl.errNoLog", Rows.laid_loop_example_g00161_impl_errNoLog), ("loop.example/g00161/impl.errNoEntry", Rows.laid_loop_example_g00161_impl_errNoEntry), ("loop.example/g00161/impl.errOtherTerm", Rows.laid_loop_example_g00161_impl_errOtherTerm)] W ∧ handlesMet Tryd.prog [("errors.errorType", Rows.laid_errors_errorType)] W := h
theorem handle_of {W : World} (h : handlesMet Tryd.prog [("errors.errorType", Rows.laid_errors_errorType)] W) : W.cell? ⟨2, 0, none⟩ = some (.iface 68 (.agg #[hdl 39])) := by
  obtain ⟨name, u, ty, e1, e2, e3, e4, e5⟩ := h _ (List.mem_singleton.2 rfl)
  have en : name = [101, 114, 114, 111, 114] := (Option.some.inj e1).symm
  subst en
  obtain rfl := Option.some.inj (Tryd.rt.symm.trans e2)
  have hm : ty ∈ (List.range (270 - 100)).filter fun t => Tryd.prog.rowNamed t [101, 114, 114, 111, 114] := List.mem_filter.2 ⟨List.mem_range.2 (by rw [← Tryd.typesSize]; exact e3), e4⟩
  rw [Tryd.oneRow] at hm
  obtain rfl := List.mem_singleton.1 hm
  have hh : typeHandle Tryd.prog 39 = hdl 39 := by kernel_rfl
  rw [hh] at e5
  simpa using World.var?_cell Tryd.et e5 0
theorem merge_door (os : Os) (args : Array Value) : laidMetH Tryd.prog Rows.fnExactMergeRow.laid ((World.doorLaid Tryd.prog 4000 os).forCall (fun _ _ => 0) ⟨#[], args, []⟩).memory :=
  laidMetH_of_parts (laidMet_of_run3 8 (by kernel_rfl) (by kernel_rfl) (by kernel_rfl)) (by kernel_rfl)

set_option maxRecDepth 100000 in
theorem lawMerge_lifted (os : Os) (started : os.Started) (H : Type) (enc : TypeId × Value → H) :
    ReturnsInHanded {} Tryd.checked os 3 .any (fun w args => (Rows.fnExactMergeSpec.pre enc Tryd.prog Tryd.f3 [] false w args ∧ laidMetH Tryd.prog Rows.fnExactMergeRow.laid w) ∧ sizedMet enc Tryd.prog Tryd.f3 (OpenSpec.ofChange Rows.fnExactMergeSpec) false w args)
      (Rows.fnExactMergeSpec.post enc Tryd.prog Tryd.f3 false true false false) := by
  refine returnsInHanded_of_change_and (C := Tryd.checked) (X := fun w _ => laidMetH Tryd.prog Rows.fnExactMergeRow.laid w) (fun _ _ _ hh h => h.of_heap hh) Tryd.own started (by kernel_rfl) Tryd.func3
    (ChangeSpec.witness_shaped (enc := enc) (C := Tryd.checked) (os := os) (X := fun w _ => laidMetH Tryd.prog Rows.fnExactMergeRow.laid w) false (World.doorLaid Tryd.prog 4000 os) #[.slice none 0 0, .int .i64 0, .slice none 0 0] 8 rfl (World.shaped_of_RefB (by kernel_rfl) (by kernel_rfl)) (by kernel_rfl) (by kernel_rfl) (by kernel_rfl) (merge_door os _)) ?_
  intro W base args ds gs before hval0 hW _ _ hL0 _
  have hval : ∀ (j : Nat) t v, Tryd.f3.params[j]? = some t → args[j]? = some v → Value.okWide Tryd.prog W .any base t v := hval0
  obtain ⟨hL, hH0⟩ := merge_parts hL0
  have cH := handle_of hH0
  obtain ⟨aL, saL, haL, _⟩ := laid_sentinel hL (show Tryd.prog.globalNamed "loop.example/g00161/impl.errNoLog" = some 1 by kernel_rfl) (show (Tryd.prog.globals[1]?).map (·.type) = some 39 by kernel_rfl) Tryd.underlying39 rowErr (tp := 125) (te := 148) (ts := 9) Tryd.underlying125 Tryd.underlying148 rfl rfl Tryd.underlying9 (by kernel_rfl) (by kernel_rfl)
  have caL : W.cell? ⟨1, 0, none⟩ = some (.iface 125 (.pointer (some aL))) := by simpa using World.var?_cell (show Tryd.prog.globalNamed "loop.example/g00161/impl.errNoLog" = some 1 by kernel_rfl) haL 0
  obtain ⟨aE, saE, haE, _⟩ := laid_sentinel hL.tail (show Tryd.prog.globalNamed "loop.example/g00161/impl.errNoEntry" = some 0 by kernel_rfl) (show (Tryd.prog.globals[0]?).map (·.type) = some 39 by kernel_rfl) Tryd.underlying39 rowErr (tp := 125) (te := 148) (ts := 9) Tryd.underlying125 Tryd.underlying148 rfl rfl Tryd.underlying9 (by kernel_rfl) (by kernel_rfl)
  have caE : W.cell? ⟨0, 0, none⟩ = some (.iface 125 (.pointer (some aE))) := by simpa using World.var?_cell (show Tryd.prog.globalNamed "loop.example/g00161/impl.errNoEntry" = some 0 by kernel_rfl) haE 0
  obtain ⟨aO, saO, haO, _⟩ := laid_sentinel hL.tail.tail (show Tryd.prog.globalNamed "loop.example/g00161/impl.errOtherTerm" = some 3 by kernel_rfl) (show (Tryd.prog.globals[3]?).map (·.type) = some 39 by kernel_rfl) Tryd.underlying39 rowErr (tp := 125) (te := 148) (ts := 9) Tryd.underlying125 Tryd.underlying148 rfl rfl Tryd.underlying9 (by kernel_rfl) (by kernel_rfl)
  have caO : W.cell? ⟨3, 0, none⟩ = some (.iface 125 (.pointer (some aO))) := by simpa using World.var?_cell (show Tryd.prog.globalNamed "loop.example/g00161/impl.errOtherTerm" = some 3 by kernel_rfl) haO 0
  have hW' := hW
  obtain ⟨p, q, hA0, hV0, rfl, hfz, hnd⟩ := hW
  have hA : DataW.TrodAll enc Tryd.prog W 0 (fun _ => true) true Tryd.f3.params.toList args.toList ds p := hA0
  have hV : DataW.TrodVars enc Tryd.prog W (fun _ => true) ["loop.example/g00161/impl.errNoEntry", "loop.example/g00161/impl.errNoLog", "loop.example/g00161/impl.errOtherTerm"] gs q := hV0
  rw [Tryd.params3] at hA hval
  obtain ⟨v0, vs0, d0, ds0, p0, q0, hargs, rfl, rfl, h0, r0⟩ := trodAll_cons hA
  obtain ⟨v1, vs1, d1, ds1, p1, q1, rfl, rfl, rfl, h1, r1⟩ := trodAll_cons r0
  obtain ⟨v2, vs2, d2, ds2, p2, q2, rfl, rfl, rfl, h2, r2⟩ := trodAll_cons r1
  obtain ⟨rfl, rfl, rfl⟩ := trodAll_nil r2
  obtain rfl : args = #[v0, v1, v2] := by cases args; simp_all
  have hVk := hV
  obtain ⟨g0, g1, g2, rfl⟩ : ∃ g0 g1 g2, gs = [g0, g1, g2] := vars_shape3 hV
  have k0 := h0
  have lt0 : ∀ x ∈ p0, x.block < W.heap.size := by obtain ⟨m, hm⟩ := k0; exact DataW.trod_lt m _ _ _ hm
  have k2 := h2
  have lt2 : ∀ x ∈ p2, x.block < W.heap.size := by obtain ⟨m, hm⟩ := k2; exact DataW.trod_lt m _ _ _ hm
  obtain ⟨b1, l1, c1', rfl⟩ := okWide_slice Tryd.underlying22 (hval 0 22 v0 rfl rfl)
  obtain ⟨f0, hf0⟩ := h0
  obtain ⟨ao2, m2, cap2, T2, X2, e2, hm2, hr2, hw2, hx2⟩ := open_entries hf0
  simp [Value.cells] at e2
  obtain ⟨rfl, rfl, rfl⟩ := e2
  obtain ⟨b3, l3, c3', rfl⟩ := okWide_slice Tryd.underlying22 (hval 2 22 v2 rfl rfl)
  obtain ⟨f2, hf2⟩ := h2
  obtain ⟨ao4, m4, cap4, T4, X4, e4, hm4, hr4, hw4, hx4⟩ := open_entries hf2
  simp [Value.cells] at e4
  obtain ⟨rfl, rfl, rfl⟩ := e4
  obtain ⟨a1, rfl, rfl, rfl, wa1⟩ := open_int Tryd.underlying2 (hval 1 2 v1 rfl rfl) h1
  clear hA0 hV0 hval0
  refine (lawMerge_walk b1 l1 c1' T2 X2 a1 b3 l3 c3' T4 X4 aE aL aO hm2 hx2 hm4 hx4 W hr2 hr4 caE caL caO cH).mono fun e W' ⟨he, bel⟩ => ?_
  subst he
  exact ⟨_, rfl, _, _, _, [], _, _, hW', trodAll_mk1 (shut_bool Tryd.underlying4 _), (trodAll_cons_mk (Below.trod Tryd.laidOut (by kernel_rfl) (of_decide_eq_true (by kernel_rfl)) k0 bel lt0) (trodAll_cons_mk (shut_int Tryd.underlying2 wa1) (trodAll_cons_mk (Below.trod Tryd.laidOut (by kernel_rfl) (of_decide_eq_true (by kernel_rfl)) k2 bel lt2) trodAll_mk0))), Below.trodVars Tryd.laidOut bel (by kernel_rfl) hVk, bel.frame _, fun h => by cases h⟩

theorem fnExactMerge_row : Rows.FnExactMergeSaid :=
  OpenClaim.holds_of_wide 3 Tryd.f3 rfl rfl rfl rfl rfl rfl rfl ⟨rfl, rfl, rfl, rfl, rfl⟩ rfl rfl rfl rfl rfl (by kernel_rfl) Tryd.func3 (by kernel_rfl)
    (of_decide_eq_true (by kernel_rfl)) (by unfold Func.isWrapper; first | (rw [if_pos (by decide +kernel)]; kernel_rfl) | (rw [if_neg (by decide +kernel)]; exact ⟨rfl, rfl⟩))
    (fun os started H enc _ => lawMerge_lifted os started H enc)

theorem fnExactMerge_holds : Rows.FnExactMergeCardSaid :=
  Claim7.holds_tied_plain_at .later [] [.handle, .sentinel, .sentinel, .sentinel] true Rows.fnExactMergeCard.stood.harness true
    fnExactMerge_row (fun _ h => by cases h) (by kernel_rfl) (fun _ h => by cases h) fnExactMerge_row_tie rfl ⟨rfl, rfl⟩ (by kernel_rfl) rfl
    (fun f fn hf hfn => by
      obtain rfl : f = 3 := Option.some.inj ((show Tryd.prog.funcNamed Rows.fnExactMergeRow.func = some 3 by kernel_rfl).symm.trans hf) |>.symm
      obtain rfl : fn = Tryd.f3 := (Option.some.inj (Tryd.func3.symm.trans hfn)).symm
      exact ⟨by kernel_rfl, fun j t ht => by
        rw [Tryd.params3] at ht
        have hm : t ∈ [22, 2, 22] := by simpa using Array.mem_of_getElem? ht
        have hall : ([22, 2, 22].all fun u => !Tryd.prog.wantsStandIn u) = true := by kernel_rfl
        exact (show Tryd.prog.wantsStandIn t = false by simpa using List.all_eq_true.1 hall t hm)⟩)
    (by kernel_rfl)
#print axioms fnExactMerge_holds

end Go.Proofs.YtcmeppjfjledfakDoor
