/-
  Proved: at every service the law FnExactServiceOk answers true, and its argument reads behind the call as it read before. No condition.
-/
import Derived.Test.YthcgibpiogmmdaiPack5
import Derived.Test.YthcgibpiogmmdaiPack3
import Derived.Deep.RegionHeld3
import Derived.Lib.SmallJoins
import Derived.ChangeArms
set_option linter.unusedVariables false
set_option linter.unusedSimpArgs false
namespace Go.Proofs.Ythcgibpiogmmdai
open Go.ChangeShapes Go.WideShapes Go.ChangeAt Go.RowKit Go.Deep Go.Joins
attribute [local go_sem ↓] Go.wp_at_zero Go.wp_at_succ

theorem bans_eq {e : Ending} {P : Prop} {c : Bool} (h : BAns e P) (hc : c = true ↔ P) : e = .returned (.bool c) := by
  obtain ⟨v, rfl, hv⟩ := h
  have : v = c := by rw [Bool.eq_iff_iff]; exact hv.trans hc.symm
  rw [this]
theorem bool_of (P : Prop) : ∃ c : Bool, c = true ↔ P := by
  by_cases h : P
  · exact ⟨true, by simp [h]⟩
  · exact ⟨false, by simp [h]⟩

set_option maxRecDepth 100000 in
set_option maxHeartbeats 8000000 in
theorem lawServiceOk_walk (p : Int) (ao : Option Addr) (n cap : Nat) (F T G : Nat → Int) (po : Option Addr) (k pcap : Nat) (P : Nat → Int) (eo : Option Addr) (m ecap : Nat) (L H : Nat → Int) (V : Int) (so : Option Addr) (t scap : Nat) (S : Nat → ByteArray) (hn : n ≤ maxLen) (hk : k ≤ maxLen) (hm : m ≤ maxLen) (ht : t ≤ maxLen) (hS : ∀ k, k < t → (S k).size ≤ maxLen) (w : World) (hr : Row w ao n F T G) (hp : IRow w po k P) (he : ERow w eo m L H) (hs : SRow w so t S) :
    Calls Try.prog 5 #[.agg #[.int .i64 p, .slice ao n cap, .slice po k pcap, .slice eo m ecap, .int .i64 V, .slice so t scap]] w fun e w' => e = .returned (.bool true) ∧ Below w.heap.size w w' := by
  unfold maxLen at hn hk hm ht hS
  have hB := (Below.refl w.heap.size w).alloc (Nat.le_refl _) (.cells #[.int .i64 p, .slice ao n cap, .slice po k pcap, .slice eo m ecap, .int .i64 V, .slice so t scap] 57)
  have vA := sv6_new w p (.slice ao n cap) (.slice po k pcap) (.slice eo m ecap) V (.slice so t scap) 57
  have hrA := hr.below hB (Nat.le_refl _)
  have hpA := hp.below hB (Nat.le_refl _)
  have heA := he.below hB (Nat.le_refl _)
  have hsA := hs.below hB (Nat.le_refl _)
  go_enter Try.func5, Try.ntmps5
  go_wp2_with fail
  generalize (w.alloc (.cells #[.int .i64 p, .slice ao n cap, .slice po k pcap, .slice eo m ecap, .int .i64 V, .slice so t scap] 57)) = W0 at hB vA hrA hpA heA hsA ⊢
  generalize w.heap.size = bA at vA ⊢
  refine (szService_any p ao n cap F T G po k pcap P eo m ecap L H V so t scap S (by omega) (by omega) (by omega) (by omega) (fun k hk => by have := hS k hk; omega) _ hsA).mono ?_
  rintro e w1 ⟨r, rfl, hbd, hb1⟩
  replace vA := vA.next hb1
  replace hrA := hrA.below hb1 (Nat.le_refl _)
  replace hpA := hpA.below hb1 (Nat.le_refl _)
  replace heA := heA.below hb1 (Nat.le_refl _)
  replace hsA := hsA.below hb1 (Nat.le_refl _)
  replace hB := below_next hB (Nat.le_refl _) hb1
  by_cases hr0 : r < 0
  · go_wp2
    go_ret
    exact ⟨rfl, hB⟩
  have hbd' := hbd (by omega)
  have hn' : n ≤ 1048576 := by omega
  have hk' : k ≤ 1048576 := by omega
  have hm' : m ≤ 1048576 := by omega
  have ht' : t ≤ 1048576 := by omega
  clear hbd hbd' hb1 hn hk hm ht
  obtain ⟨c, hc⟩ := bool_of (SOk p n F T G k P m L H V t)
  have HS : Hid (∀ ao' cap' po' pcap' eo' ecap' so' scap' W, Row W ao' n F T G → IRow W po' k P → ERow W eo' m L H → Calls Try.prog 21 #[.agg #[.int .i64 p, .slice ao' n cap', .slice po' k pcap', .slice eo' m ecap', .int .i64 V, .slice so' t scap']] W fun e w' => e = .returned (.bool c) ∧ Below W.heap.size W w') := fun ao' cap' po' pcap' eo' ecap' so' scap' W h1 h2 h3 => (specServiceOk_any p ao' n cap' F T G po' k pcap' P eo' m ecap' L H V so' t scap' S hn' hk' hm' ht' W h1 h2 h3).mono (fun e w' h => ⟨bans_eq h.1 hc, h.2⟩)
  have HI : Hid (∀ ao' cap' po' pcap' eo' ecap' so' scap' W, Row W ao' n F T G → IRow W po' k P → ERow W eo' m L H → Calls Try.prog 23 #[.agg #[.int .i64 p, .slice ao' n cap', .slice po' k pcap', .slice eo' m ecap', .int .i64 V, .slice so' t scap']] W fun e w' => e = .returned (.bool c) ∧ Below W.heap.size W w') := fun ao' cap' po' pcap' eo' ecap' so' scap' W h1 h2 h3 => (implServiceOk_any p ao' n cap' F T G po' k pcap' P eo' m ecap' L H V so' t scap' S hn' hk' hm' ht' W h1 h2 h3).mono (fun e w' h => ⟨bans_eq h.1 hc, h.2⟩)
  clear hc
  have x0 : w1.cell? ⟨bA, 0, none⟩ = some (.int .i64 p) := vA.cell (j := 0) (by omega)
  have x1 : w1.cell? ⟨bA, 1, none⟩ = some (.slice ao n cap) := vA.cell (j := 1) (by omega)
  have x2 : w1.cell? ⟨bA, 2, none⟩ = some (.slice po k pcap) := vA.cell (j := 2) (by omega)
  have x3 : w1.cell? ⟨bA, 3, none⟩ = some (.slice eo m ecap) := vA.cell (j := 3) (by omega)
  have x4 : w1.cell? ⟨bA, 4, none⟩ = some (.int .i64 V) := vA.cell (j := 4) (by omega)
  have x5 : w1.cell? ⟨bA, 5, none⟩ = some (.slice so t scap) := vA.cell (j := 5) (by omega)
  go_wp2_with fail
  refine (toService_any p ao n cap F T G po k pcap P eo m ecap L H V so t scap S hn' hk' hm' ht' _ hrA hpA heA hsA).mono ?_
  rintro e w2 ⟨b2, c2, d2, f2, rfl, r2, i2, e2, s2, hb2⟩
  replace vA := vA.next hb2
  replace hrA := hrA.below hb2 (Nat.le_refl _)
  replace hpA := hpA.below hb2 (Nat.le_refl _)
  replace heA := heA.below hb2 (Nat.le_refl _)
  replace hsA := hsA.below hb2 (Nat.le_refl _)
  replace hB := below_next hB (Nat.le_refl _) hb2
  clear hb2 x0 x1 x2 x3 x4 x5
  go_wp2_with fail
  refine (HS.out _ _ _ _ _ _ _ _ _ r2 i2 e2).mono ?_
  rintro e w3 ⟨rfl, hb3⟩
  replace vA := vA.next hb3
  replace hrA := hrA.below hb3 (Nat.le_refl _)
  replace hpA := hpA.below hb3 (Nat.le_refl _)
  replace heA := heA.below hb3 (Nat.le_refl _)
  replace hsA := hsA.below hb3 (Nat.le_refl _)
  replace hB := below_next hB (Nat.le_refl _) hb3
  clear hb3 r2 i2 e2 s2
  have x0 : w3.cell? ⟨bA, 0, none⟩ = some (.int .i64 p) := vA.cell (j := 0) (by omega)
  have x1 : w3.cell? ⟨bA, 1, none⟩ = some (.slice ao n cap) := vA.cell (j := 1) (by omega)
  have x2 : w3.cell? ⟨bA, 2, none⟩ = some (.slice po k pcap) := vA.cell (j := 2) (by omega)
  have x3 : w3.cell? ⟨bA, 3, none⟩ = some (.slice eo m ecap) := vA.cell (j := 3) (by omega)
  have x4 : w3.cell? ⟨bA, 4, none⟩ = some (.int .i64 V) := vA.cell (j := 4) (by omega)
  have x5 : w3.cell? ⟨bA, 5, none⟩ = some (.slice so t scap) := vA.cell (j := 5) (by omega)
  go_wp2_with fail
  refine (toService_any p ao n cap F T G po k pcap P eo m ecap L H V so t scap S hn' hk' hm' ht' _ hrA hpA heA hsA).mono ?_
  rintro e w4 ⟨b4, c4, d4, f4, rfl, r4, i4, e4, s4, hb4⟩
  replace vA := vA.next hb4
  replace hrA := hrA.below hb4 (Nat.le_refl _)
  replace hpA := hpA.below hb4 (Nat.le_refl _)
  replace heA := heA.below hb4 (Nat.le_refl _)
  replace hsA := hsA.below hb4 (Nat.le_refl _)
  replace hB := below_next hB (Nat.le_refl _) hb4
  have hal := (Below.refl w4.heap.size w4).alloc (Nat.le_refl _) (.cells #[.int .i64 p, .slice (some ⟨b4, 0, none⟩) n n, .slice (some ⟨c4, 0, none⟩) k k, .slice (some ⟨d4, 0, none⟩) m m, .int .i64 V, .slice (some ⟨f4, 0, none⟩) t t] 44)
  have vX := sv6_new w4 p (.slice (some ⟨b4, 0, none⟩) n n) (.slice (some ⟨c4, 0, none⟩) k k) (.slice (some ⟨d4, 0, none⟩) m m) V (.slice (some ⟨f4, 0, none⟩) t t) 44
  replace vA := vA.next hal
  replace hrA := hrA.below hal (Nat.le_refl _)
  replace hpA := hpA.below hal (Nat.le_refl _)
  replace heA := heA.below hal (Nat.le_refl _)
  replace hsA := hsA.below hal (Nat.le_refl _)
  replace r4 := r4.below hal (Nat.le_refl _)
  replace i4 := i4.below hal (Nat.le_refl _)
  replace e4 := e4.below hal (Nat.le_refl _)
  replace s4 := s4.below hal (Nat.le_refl _)
  replace hB := below_next hB (Nat.le_refl _) hal
  clear hb4 hal x0 x1 x2 x3 x4 x5
  go_wp2_with fail
  generalize (w4.alloc (.cells #[.int .i64 p, .slice (some ⟨b4, 0, none⟩) n n, .slice (some ⟨c4, 0, none⟩) k k, .slice (some ⟨d4, 0, none⟩) m m, .int .i64 V, .slice (some ⟨f4, 0, none⟩) t t] 44)) = W4 at vA vX hrA hpA heA hsA hB r4 i4 e4 s4 ⊢
  generalize w4.heap.size = bX at vX ⊢
  refine (HI.out _ _ _ _ _ _ _ _ _ r4 i4 e4).mono ?_
  rintro e w5 ⟨rfl, hb5⟩
  replace vA := vA.next hb5
  replace hrA := hrA.below hb5 (Nat.le_refl _)
  replace hpA := hpA.below hb5 (Nat.le_refl _)
  replace heA := heA.below hb5 (Nat.le_refl _)
  replace hsA := hsA.below hb5 (Nat.le_refl _)
  replace vX := vX.next hb5
  replace r4 := r4.below hb5 (Nat.le_refl _)
  replace i4 := i4.below hb5 (Nat.le_refl _)
  replace e4 := e4.below hb5 (Nat.le_refl _)
  replace s4 := s4.below hb5 (Nat.le_refl _)
  replace hB := below_next hB (Nat.le_refl _) hb5
  clear hb5
  have x0 : w5.cell? ⟨bA, 0, none⟩ = some (.int .i64 p) := vA.cell (j := 0) (by omega)
  have x1 : w5.cell? ⟨bA, 1, none⟩ = some (.slice ao n cap) := vA.cell (j := 1) (by omega)
  have x2 : w5.cell? ⟨bA, 2, none⟩ = some (.slice po k pcap) := vA.cell (j := 2) (by omega)
  have x3 : w5.cell? ⟨bA, 3, none⟩ = some (.slice eo m ecap) := vA.cell (j := 3) (by omega)
  have x4 : w5.cell? ⟨bA, 4, none⟩ = some (.int .i64 V) := vA.cell (j := 4) (by omega)
  have x5 : w5.cell? ⟨bA, 5, none⟩ = some (.slice so t scap) := vA.cell (j := 5) (by omega)
  have y0 : w5.cell? ⟨bX, 0, none⟩ = some (.int .i64 p) := vX.cell (j := 0) (by omega)
  have y1 : w5.cell? ⟨bX, 1, none⟩ = some (.slice (some ⟨b4, 0, none⟩) n n) := vX.cell (j := 1) (by omega)
  have y2 : w5.cell? ⟨bX, 2, none⟩ = some (.slice (some ⟨c4, 0, none⟩) k k) := vX.cell (j := 2) (by omega)
  have y3 : w5.cell? ⟨bX, 3, none⟩ = some (.slice (some ⟨d4, 0, none⟩) m m) := vX.cell (j := 3) (by omega)
  have y4 : w5.cell? ⟨bX, 4, none⟩ = some (.int .i64 V) := vX.cell (j := 4) (by omega)
  have y5 : w5.cell? ⟨bX, 5, none⟩ = some (.slice (some ⟨f4, 0, none⟩) t t) := vX.cell (j := 5) (by omega)
  have hcc : (c != c) = false := by simp
  have hrd := hrA.below (Below.refl w5.heap.size w5).drew (Nat.le_refl _)
  have hpd := hpA.below (Below.refl w5.heap.size w5).drew (Nat.le_refl _)
  have hed := heA.below (Below.refl w5.heap.size w5).drew (Nat.le_refl _)
  have hsd := hsA.below (Below.refl w5.heap.size w5).drew (Nat.le_refl _)
  have rd := r4.below (Below.refl w5.heap.size w5).drew (Nat.le_refl _)
  have id := i4.below (Below.refl w5.heap.size w5).drew (Nat.le_refl _)
  have ed := e4.below (Below.refl w5.heap.size w5).drew (Nat.le_refl _)
  have sd := s4.below (Below.refl w5.heap.size w5).drew (Nat.le_refl _)
  clear vA vX hrA hpA heA hsA r4 i4 e4 s4
  go_wp2_with fail
  go_region_held3 (fun w' => w'.cell? ⟨bA, 0, none⟩ = some (.int .i64 p) ∧ w'.cell? ⟨bA, 1, none⟩ = some (.slice ao n cap) ∧ w'.cell? ⟨bA, 2, none⟩ = some (.slice po k pcap) ∧ w'.cell? ⟨bA, 3, none⟩ = some (.slice eo m ecap) ∧ w'.cell? ⟨bA, 4, none⟩ = some (.int .i64 V) ∧ w'.cell? ⟨bA, 5, none⟩ = some (.slice so t scap) ∧ w'.cell? ⟨bX, 0, none⟩ = some (.int .i64 p) ∧ w'.cell? ⟨bX, 1, none⟩ = some (.slice (some ⟨b4, 0, none⟩) n n) ∧ w'.cell? ⟨bX, 2, none⟩ = some (.slice (some ⟨c4, 0, none⟩) k k) ∧ w'.cell? ⟨bX, 3, none⟩ = some (.slice (some ⟨d4, 0, none⟩) m m) ∧ w'.cell? ⟨bX, 4, none⟩ = some (.int .i64 V) ∧ w'.cell? ⟨bX, 5, none⟩ = some (.slice (some ⟨f4, 0, none⟩) t t))
    (first | (go_split_ands; refine ⟨?_, ?_, ?_, ?_, ?_, ?_, ?_, ?_, ?_, ?_, ?_, ?_⟩ <;> first | exact keep_cell hb7 (Nat.le_refl _) (by assumption) | exact keep_cell hb6 (Nat.le_refl _) (by assumption)) | go_keep)
    (first | (go_at_call 22; refine (toService_any p ao n cap F T G po k pcap P eo m ecap L H V so t scap S hn' hk' hm' ht' _ hrd hpd hed hsd).mono ?_; rintro e w6 ⟨b6, c6, d6, f6, rfl, r6, i6, e6, s6, hb6⟩) | (go_at_call 15; refine (eqService_full p _ _ _ _ _ _ n n n k k k m m m F T G P L H V _ _ t t t S ht' hn' hk' hm' _ (rd.below hb6 (Nat.le_refl _)) r6 (id.below hb6 (Nat.le_refl _)) i6 (ed.below hb6 (Nat.le_refl _)) e6 (sd.below hb6 (Nat.le_refl _)) s6).mono ?_; rintro e w7 ⟨rfl, hb7⟩))
  all_goals
    go_wp2
    go_ret
    exact ⟨rfl, below_next (below_next hB.drew (Nat.le_refl _) hb6) (Nat.le_refl _) hb7⟩

set_option maxRecDepth 100000 in
theorem open_texts {H : Type} {enc : TypeId × Value → H} {w : World} {base : Nat} {spare : Nat → Bool} {held : Bool} {fuel : Nat} {cs : List Value} {x : DataW H × List MemPlace}
    (h : DataW.trod enc Try.prog w base spare held fuel 42 cs = some x) :
    ∃ (ao : Option Addr) (n cap : Nat) (S : Nat → ByteArray), cs = [.slice ao n cap] ∧ n ≤ maxLen ∧ SRow w ao n S ∧ ∀ k, k < n → (S k).size ≤ maxLen := by
  rcases open_slice Try.underlying42 h with ⟨rfl, _⟩ | ⟨a, len, cap, m, n, D, Pl, rfl, hb, hl, hm, hmm, _, hx⟩
  · exact ⟨none, 0, 0, fun _ => ByteArray.empty, rfl, Nat.zero_le _, fun k hk => by omega, fun k hk => by omega⟩
  have hlm : len ≤ m := by rw [hmm]; split <;> omega
  have cellsS : Try.prog.cellsOf 9 = 1 := by kernel_rfl
  have each : ∀ i, i < len → ∃ q : ByteArray, w.cell? (a.add i) = some (.string q) ∧ q.size ≤ maxLen := by
    intro i hi
    obtain ⟨cs', h1, h2⟩ := hx i (by omega)
    rw [cellsS] at h1
    obtain ⟨_, hlen, hcell⟩ := World.cells?_some h1
    match cs', hlen with
    | [v0], _ =>
      obtain ⟨q0, r0, _, f0⟩ := DataW.trod_string Try.underlying9 h2
      have e0 := hcell 0 (by omega)
      rw [add_add] at e0
      simp at r0
      subst r0
      exact ⟨q0, by simpa using e0, f0⟩
  obtain ⟨f, hf⟩ := choose_lt each
  refine ⟨some a, len, cap, f, rfl, by omega, fun k hk => ?_, fun k hk => (hf k hk).2⟩
  obtain ⟨b, o, spot⟩ := a
  have hspot : spot = none := by
    have := World.cell?_spot (hf 0 (by omega)).1
    simpa [Addr.add] using this
  subst hspot
  have := (hf k hk).1
  rw [Addr.add_mid] at this
  exact ⟨b, o, rfl, this⟩
theorem array6 {α : Type} {cs : Array α} (h : cs.size = 6) : ∃ c0 c1 c2 c3 c4 c5, cs = #[c0, c1, c2, c3, c4, c5] := by
  obtain ⟨l⟩ := cs
  match l, h with
  | [c0, c1, c2, c3, c4, c5], _ => exact ⟨c0, c1, c2, c3, c4, c5, rfl⟩
theorem Try.cellsLService : Try.prog.cellsOf 57 = 6 := by kernel_rfl
theorem Try.cellsTexts : Try.prog.cellsOf 42 = 1 := by kernel_rfl
theorem Try.cellsArcs : Try.prog.cellsOf 22 = 1 := by kernel_rfl
theorem Try.cellsInts : Try.prog.cellsOf 38 = 1 := by kernel_rfl
theorem Try.cellsEdges : Try.prog.cellsOf 53 = 1 := by kernel_rfl

set_option maxRecDepth 100000 in
theorem lawServiceOk_lifted (os : Os) (started : os.Started) (H : Type) (enc : TypeId × Value → H) :
    ReturnsInHanded {} Try.checked os 5 .any (Rows.fnExactServiceOkSpec.pre6 enc Try.prog Try.f5 Rows.fnExactServiceOkRow.domain false) (Rows.fnExactServiceOkSpec.post enc Try.prog Try.f5 false true false false) := by
  refine returnsInHanded_of_change (C := Try.checked) Try.own started (by kernel_rfl) Try.func5
    (ChangeSpec.witness6 (enc := enc) (C := Try.checked) false ⟨#[], #[.agg #[.int .i64 0, .slice none 0 0, .slice none 0 0, .slice none 0 0, .int .i64 0, .slice none 0 0]], []⟩ 8 (by kernel_rfl) (by kernel_rfl) (by kernel_rfl) (by kernel_rfl)) ?_
  intro W base args ds gs before hval0 hW hcnd _
  have hval : ∀ (j : Nat) t v, Try.f5.params[j]? = some t → args[j]? = some v → Value.okWide Try.prog W .any base t v := hval0
  have hW' := hW
  obtain ⟨p, q, hA0, hV, rfl, hfz, hnd⟩ := hW
  have hA : DataW.TrodAll enc Try.prog W 0 (fun _ => true) true Try.f5.params.toList args.toList ds p := hA0
  rw [Try.params5] at hA hval
  obtain ⟨v0, vs0, d0, ds0, p0, q0, hargs, rfl, rfl, h0, r0⟩ := trodAll_cons hA
  obtain ⟨rfl, rfl, rfl⟩ := trodAll_nil r0
  obtain rfl : args = #[v0] := by cases args; simp_all
  obtain ⟨rfl, rfl⟩ := trodVars_none hV
  have k0 := h0
  have lt0 : ∀ x ∈ p0, x.block < W.heap.size := by obtain ⟨m, hm⟩ := k0; exact DataW.trod_lt m _ _ _ hm
  obtain ⟨cs, rfl, hsz⟩ := okWide_struct Try.underlying57 (hval 0 57 v0 rfl rfl)
  obtain ⟨c0, c1, c2, c3, c4, c5, rfl⟩ := array6 (hsz.trans Try.cellsLService)
  obtain ⟨fuel, hf⟩ := h0
  obtain ⟨y0, y1, y2, y3, nn, _, _, g0, g1, g2, g3⟩ := trod_struct4 Try.underlying57 hf
  simp [Value.cells, Try.cellsLGraph, Try.cellsLHier, Try.cellsInt, Try.cellsTexts] at g0 g1 g2 g3
  obtain ⟨ya, yb, na, _, _, ga, gb⟩ := trod_struct2 Try.underlying34 g0
  obtain ⟨yc, yd, nc, _, _, gc, gd⟩ := trod_struct2 Try.underlying55 g1
  simp [Try.cellsInt, Try.cellsArcs, Try.cellsInts, Try.cellsEdges] at ga gb gc gd
  obtain ⟨pl, e0, _, _⟩ := DataW.trod_int Try.underlying2 ga
  obtain ⟨ao, n, cap, F, T, G, e1, hn, hr⟩ := open_arcs gb
  obtain ⟨po, k, pcap, P, e2, hk, hp, _⟩ := open_nums gc
  obtain ⟨eo, m, ecap, Lx, Hx, e3, hm, he, _, _⟩ := open_edges gd
  obtain ⟨V, e4, _, _⟩ := DataW.trod_int Try.underlying2 g2
  obtain ⟨so, t, scap, S, e5, ht, hs, hS⟩ := open_texts g3
  simp at e0 e1 e2 e3 e4 e5
  subst e0 e1 e2 e3 e4 e5
  clear hA0 hval0
  refine (lawServiceOk_walk pl ao n cap F T G po k pcap P eo m ecap Lx Hx V so t scap S hn hk hm ht hS W hr hp he hs).mono fun e W' ⟨he, bel⟩ => ?_
  subst he
  exact ⟨_, rfl, _, _, _, [], _, [], hW', trodAll_mk1 (shut_bool Try.underlying4 _), (trodAll_cons_mk (Below.trod Try.laidOut (by kernel_rfl) (of_decide_eq_true (by kernel_rfl)) k0 bel lt0) trodAll_mk0), rfl, bel.frame _, fun h => by cases h⟩

theorem fnExactServiceOk_holds : Rows.FnExactServiceOkSaid :=
  OpenClaim.holds_of_wide 5 Try.f5 rfl rfl rfl rfl rfl rfl rfl ⟨rfl, rfl, rfl, rfl, rfl⟩ rfl rfl rfl rfl rfl (by kernel_rfl) Try.func5 (by kernel_rfl)
    (of_decide_eq_true (by kernel_rfl)) (by unfold Func.isWrapper; first | (rw [if_pos (by decide +kernel)]; kernel_rfl) | (rw [if_neg (by decide +kernel)]; exact ⟨rfl, rfl⟩))
    (fun os started H enc _ => lawServiceOk_lifted os started H enc)
#print axioms fnExactServiceOk_holds

end Go.Proofs.Ythcgibpiogmmdai
