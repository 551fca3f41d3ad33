/-
  The law FnExactTrue, walked: it answers true at every map and every list of texts. Its premise here: the library's table of powers of ten reads as it is laid.
-/
import Derived.Test.YticckgmkhgnmfaaDoorTrIP
import Derived.Test.YticckgmkhgnmfaaDoorTrDP
import Derived.Test.YticckgmkhgnmfaaDoorPack8
set_option linter.unusedVariables false
set_option linter.unusedSimpArgs false
namespace Go.Proofs.YticckgmkhgnmfaaDoor
open Go.ChangeShapes Go.WideShapes Go.ChangeAt Go Go.RowKit Go.Deep Go.Joins
attribute [local go_sem ↓] Go.wp_at_zero Go.wp_at_succ

theorem trL_len (p : Int) (n : Nat) (F T G : Nat → Int) (S : Nat → ByteArray) (m : Nat) : (trL p n F T G S m).length ≤ m := by
  unfold trL
  split
  · cases h : trAt p n F T G S m with
    | none => simp
    | some st => exact (trAt_len h).2
  · simp
theorem OwS.srow {w : World} {base : Nat} {ao : Option Addr} {cap : Nat} {l : List ByteArray} (h : OwS w base ao cap l) : SRow w ao l.length (fun j => l.getD j ByteArray.empty) := fun k hk => by
  obtain ⟨g, e, _, hv⟩ := GOwn.vhas h (by omega)
  have := hv.cell (j := k) (by omega)
  rw [slc_lf l k hk] at this
  exact ⟨g, 0, e, by rw [Nat.zero_add]; exact this⟩
def bOf (ao : Option Addr) : Nat := match ao with | some a => a.block | none => 0
theorem OwS.bl {w : World} {base : Nat} {ao : Option Addr} {cap : Nat} {l : List ByteArray} (h : OwS w base ao cap l) (hl : 0 < l.length) : ao = some ⟨bOf ao, 0, none⟩ ∧ base ≤ bOf ao ∧ bOf ao < w.heap.size ∧ VHas w (bOf ao) 9 l.length (lf (slc l)) := by
  obtain ⟨g, e, hb, hv⟩ := GOwn.vhas h hl
  subst e
  refine ⟨rfl, hb, hv.lt, ?_⟩
  have hv2 : VHas w g 9 (l.length * 1) (lf (slc l)) := hv
  rw [Nat.mul_one] at hv2
  exact hv2
theorem OwS.far {w w' : World} {base : Nat} {ao : Option Addr} {cap : Nat} {l : List ByteArray} {row : Option Nat} (h : OwS w base ao cap l) (hg : w.grownBy w' row) (hne : ∀ x, row = some x → 0 < l.length → bOf ao ≠ x) : SRow w' ao l.length (fun j => l.getD j ByteArray.empty) := fun k hk => by
  obtain ⟨e, _, _, hv⟩ := h.bl (by omega)
  have hv2 := hv.grown hg (fun q => hne _ q.symm (by omega) rfl)
  have := hv2.cell (j := k) hk
  rw [slc_lf l k hk] at this
  exact ⟨bOf ao, 0, e, by rw [Nat.zero_add]; exact this⟩
theorem SRow.far {w w' : World} {ao : Option Addr} {n : Nat} {S : Nat → ByteArray} {row : Option Nat} (h : SRow w ao n S) (hg : w.grownBy w' row) (hne : ∀ x, row = some x → 0 < n → bOf ao ≠ x) : SRow w' ao n S := fun k hk => by
  obtain ⟨b, o, e, c⟩ := h k hk
  subst e
  exact ⟨b, o, rfl, by rw [World.cell?_of_block (w := w) (hg.block b (lt_of_cell c) (fun q => hne _ q.symm (by omega) rfl))]; exact c⟩
set_option maxRecDepth 100000 in
set_option maxHeartbeats 8000000 in
theorem lawTrue_walk (p : Int) (ao : Option Addr) (n cap : Nat) (F T G : Nat → Int) (so : Option Addr) (m sc : Nat) (S : Nat → ByteArray) (hn : n ≤ maxLen) (hm : m ≤ maxLen) (hS : ∀ k, k < m → (S k).size ≤ maxLen) (w : World) (ht : Tab w) (hr : Row w ao n F T G) (hs : SRow w so m S) :
    Calls Tryd.prog 4 #[.agg #[.int .i64 p, .slice ao n cap], .slice so m sc] w fun e w' => e = .returned (.bool true) ∧ Below w.heap.size w w' := by
  unfold maxLen at hn hm hS
  have hB : RB w (w.alloc (.cells #[.int .i64 p, .slice ao n cap] 33)) := RB.alloc _ _
  have vA : VHas (w.alloc (.cells #[.int .i64 p, .slice ao n cap] 33)) w.heap.size 33 2 (lf [.int .i64 p, .slice ao n cap]) := trBox w [.int .i64 p, .slice ao n cap] 33
  go_enter Tryd.func4, Tryd.ntmps4
  go_wp2_with fail
  generalize (w.alloc (.cells #[.int .i64 p, .slice ao n cap] 33)) = W0 at hB vA ⊢
  by_cases hbig : 1048576 < n
  · refine (szGraph_out p ao n cap 1048576 (by omega) (by omega) (by omega) (by omega) _).mono ?_
    rintro e w1 ⟨rfl, hb1⟩
    go_wp2
    go_ret
    exact ⟨rfl, RB.trans _ _ _ hB hb1⟩
  refine (szGraph_in p ao n cap 1048576 (by omega) (by omega) _).mono ?_
  rintro e w1 ⟨rfl, hb1⟩
  replace hB := RB.trans _ _ _ hB hb1
  replace vA := vA.next hb1
  have hge : ¬ (1048576 - (n : Int)) < 0 := by omega
  go_wp2_with fail
  refine (szStringS_each so m sc S (1048576 - n) (by omega) (by omega) (by omega) (fun k hk => by have := hS k hk; omega) _ (hs.below hB (Nat.le_refl _))).mono ?_
  rintro e w2 ⟨r, rfl, hbd, hw2⟩
  subst hw2
  by_cases hr0 : r < 0
  · go_wp2
    go_ret
    exact ⟨rfl, hB⟩
  obtain ⟨hm1, hS1⟩ := hbd (by omega)
  have hn' : n ≤ 1048576 := by omega
  have hm' : m ≤ 1048576 := by omega
  obtain ⟨L, hL⟩ : ∃ L, trL p n F T G S m = L := ⟨_, rfl⟩
  have hLl : L.length ≤ 1048576 := by
    have := trL_len p n F T G S m
    rw [hL] at this
    omega
  have HS : Hid (∀ ao' cap' so' sc' W, Row W ao' n F T G → SRow W so' m S → Calls Tryd.prog 12 #[.agg #[.int .i64 p, .slice ao' n cap'], .slice so' m sc'] W fun e w' => ∃ a c, e = .returned (.slice a L.length c) ∧ OwS w' W.heap.size a c L ∧ RB W w') := fun ao' cap' so' sc' W h1 h2 => by
    have := specTrue_any p ao' n cap' F T G so' m sc' S hn' hm' hS1 W h1 h2
    rw [hL] at this
    exact this
  have HI : Hid (∀ ao' cap' so' sc' W, Tab W → Row W ao' n F T G → SRow W so' m S → Calls Tryd.prog 15 #[.agg #[.int .i64 p, .slice ao' n cap'], .slice so' m sc'] W fun e w' => ∃ a c, e = .returned (.slice a L.length c) ∧ OwS w' W.heap.size a c L ∧ RB W w') := fun ao' cap' so' sc' W h0 h1 h2 => by
    have := implTrue_any p ao' n cap' F T G so' m sc' S hn' hm' hS1 W h0 h1 h2
    rw [hL] at this
    exact this
  clear hL hb1 hbd hm1 hS hn hm hge
  have x0 := vA.cell (j := 0) (by omega)
  have x1 := vA.cell (j := 1) (by omega)
  simp [lf] at x0 x1
  go_wp2_with fail
  refine (toGraph_any p ao n cap F T G hn' _ (hr.below hB (Nat.le_refl _))).mono ?_
  rintro e w3 ⟨b3, rfl, _, r3, hb3⟩
  clear x0 x1
  replace r3 := r3.row
  replace hB := RB.trans _ _ _ hB hb3
  replace vA := vA.next hb3
  go_wp2_with fail
  refine (toStringS_any so m sc S hm' _ (hs.below hB (Nat.le_refl _))).mono ?_
  rintro e w4 ⟨rfl, s4, hb4⟩
  replace hB := RB.trans _ _ _ hB hb4
  replace vA := vA.next hb4
  replace r3 := r3.below hb4 (Nat.le_refl _)
  go_wp2_with fail
  refine (HS.out _ _ _ _ _ r3 (sthas_row s4)).mono ?_
  rintro e w5 ⟨a5, c5, rfl, o5, hb5⟩
  clear r3 s4 hb3 hb4
  replace hB := RB.trans _ _ _ hB hb5
  replace vA := vA.next hb5
  have x0 := vA.cell (j := 0) (by omega)
  have x1 := vA.cell (j := 1) (by omega)
  simp [lf] at x0 x1
  clear hb5
  go_wp2_with fail
  refine (toGraph_any p ao n cap F T G hn' _ (hr.below hB (Nat.le_refl _))).mono ?_
  rintro e w6 ⟨b6, rfl, hlo6, r6, hb6⟩
  clear x0 x1
  have hb65 : bOf a5 < w5.heap.size ∨ L.length = 0 := by
    rcases Nat.eq_zero_or_pos L.length with q | q
    · exact .inr q
    · exact .inl (o5.bl q).2.2.1
  have hsz6 := hb6.size
  have hsz5 : w.heap.size ≤ w5.heap.size := hB.size
  replace hB := RB.trans _ _ _ hB hb6
  replace vA := vA.next hb6
  replace o5 := o5.next hb6
  have hal := RB.alloc w6 (.cells #[.int .i64 p, .slice (some ⟨b6, 0, none⟩) n n] 40)
  have vX : VHas (w6.alloc (.cells #[.int .i64 p, .slice (some ⟨b6, 0, none⟩) n n] 40)) w6.heap.size 40 2 (lf [.int .i64 p, .slice (some ⟨b6, 0, none⟩) n n]) := trBox w6 [.int .i64 p, .slice (some ⟨b6, 0, none⟩) n n] 40
  have h6 : Has w6 b6 n (ar F T G) := Has.of_own r6
  replace h6 := h6.below hal h6.lt
  replace hB := RB.trans _ _ _ hB hal
  replace vA := vA.next hal
  replace o5 := o5.next hal
  clear hb6 r6
  go_wp2_with fail
  generalize (w6.alloc (.cells #[.int .i64 p, .slice (some ⟨b6, 0, none⟩) n n] 40)) = W6 at hB vA o5 vX h6 hal ⊢
  have hsz7 := hal.size
  have h60 := h6
  generalize w6.heap.size = bX at vX hsz6 hsz7 ⊢
  clear hal
  refine (toStringS_any so m sc S hm' _ (hs.below hB (Nat.le_refl _))).mono ?_
  rintro e w7 ⟨rfl, s7, hb7⟩
  have hlt7 := s7.lt
  generalize hbS : W6.heap.size = bS at s7 hsz7 hlt7 ⊢
  replace hB := RB.trans _ _ _ hB hb7
  replace vA := vA.next hb7
  replace o5 := o5.next hb7
  replace vX := vX.next hb7
  replace h6 := h6.below hb7 h6.lt
  have hb6S : b6 < bS := by rw [← hbS]; exact Nat.lt_of_lt_of_le (Nat.lt_of_lt_of_le (Has.lt h60) (Nat.le_refl _)) (Nat.le_refl _)
  clear hb7 hbS
  have y0 := vX.cell (j := 0) (by omega)
  have y1 := vX.cell (j := 1) (by omega)
  simp [lf] at y0 y1
  go_wp2_with fail
  refine (HI.out _ _ _ _ _ (ht.below hB (Nat.le_refl _)) h6.row (sthas_row s7)).mono ?_
  rintro e w8 ⟨a8, c8, rfl, o8, hb8⟩
  clear y0 y1
  replace hB := RB.trans _ _ _ hB hb8
  replace vA := vA.next hb8
  replace o5 := o5.next hb8
  replace vX := vX.next hb8
  replace h6 := h6.below hb8 h6.lt
  replace s7 := VHas.next s7 hb8
  have hsz8 := hb8.size
  clear hb8
  go_wp2_with fail
  refine (eqStringS_same a8 a5 L.length c8 c5 (fun j => L.getD j ByteArray.empty) hLl _ o8.srow o5.srow).mono ?_
  rintro e w9 ⟨rfl, hb9⟩
  replace hB := RB.trans _ _ _ hB hb9
  replace vA := vA.next hb9
  replace o5 := o5.next hb9
  replace o8 := o8.next hb9
  replace vX := vX.next hb9
  replace h6 := h6.below hb9 h6.lt
  replace s7 := VHas.next s7 hb9
  clear hb9
  go_wp2_with fail
  have hd : RB w9 w9.drew := (Below.refl _ _).drew
  replace hB := RB.trans _ _ _ hB hd
  replace vA := vA.next hd
  replace o5 := o5.next hd
  replace o8 := o8.next hd
  replace vX := vX.next hd
  replace h6 := h6.below hd h6.lt
  replace s7 := VHas.next s7 hd
  clear hd
  refine region_all (by kernel_rfl) (by kernel_rfl) RB RB.refl RB.trans
    [isV (.agg #[.int .i64 p, .slice (some ⟨b6, 0, none⟩) n n]), isV (.agg #[.int .i64 p, .slice ao n cap]), fun v W => ∃ b, v = .agg #[.int .i64 p, .slice (some ⟨b, 0, none⟩) n n] ∧ Row W (some ⟨b, 0, none⟩) n F T G, isV (.bool true), isV (.bool false)]
    ⟨isV.rb, isV.rb, fun _ _ _ h hb => by obtain ⟨b, e, h⟩ := h; exact ⟨b, e, h.below hb (Nat.le_refl _)⟩, isV.rb, isV.rb, trivial⟩ rfl ?_ ?_
  · refine allOk_cons ?_ (allOk_cons ?_ (allOk_cons ?_ (allOk_cons ?_ (allOk_cons ?_ allOk_nil))))
    · exact OpOk.get RB.refl _ (fun _ => rfl) fun ev w' v hR E pr => by
        have e1 : ev (.tmp 7) = .pointer (some ⟨bX, 0, none⟩) := E.was 7 _
        have c0 := (vX.next hR).cell (j := 0) (by omega)
        have c1 := (vX.next hR).cell (j := 1) (by omega)
        simp [lf] at c0 c1
        simp [go_sem, e1, c0, c1]
    · exact OpOk.get RB.refl _ (fun _ => rfl) fun ev w' v hR E pr => by
        have e1 : ev (.tmp 2) = .pointer (some ⟨w.heap.size, 0, none⟩) := E.was 2 _
        have c0 := (vA.next hR).cell (j := 0) (by omega)
        have c1 := (vA.next hR).cell (j := 1) (by omega)
        simp [lf] at c0 c1
        simp [go_sem, e1, c0, c1]
    · refine OpOk.call rfl fun ev w' v hR E pr => ?_
      have e1 : ev (.tmp 41) = .agg #[.int .i64 p, .slice ao n cap] := E.get pr 1 41
      refine ⟨13, #[.agg #[.int .i64 p, .slice ao n cap]], by simp [go_sem, e1, E.fn], (toGraph_any p ao n cap F T G hn' _ (hr.below (RB.trans _ _ _ hB hR) (Nat.le_refl _))).mono ?_⟩
      rintro e w2 ⟨b, rfl, _, hO, hb⟩
      exact ⟨_, rfl, hb, b, rfl, hO.row⟩
    · refine OpOk.call rfl fun ev w' v hR E pr => ?_
      have e1 : ev (.tmp 40) = .agg #[.int .i64 p, .slice (some ⟨b6, 0, none⟩) n n] := E.get pr 0 40
      obtain ⟨b, e2, hrow⟩ : ∃ b, ev (.tmp 42) = .agg #[.int .i64 p, .slice (some ⟨b, 0, none⟩) n n] ∧ Row w' (some ⟨b, 0, none⟩) n F T G := E.get pr 2 42
      refine ⟨17, #[.agg #[.int .i64 p, .slice (some ⟨b6, 0, none⟩) n n], .agg #[.int .i64 p, .slice (some ⟨b, 0, none⟩) n n]], by simp [go_sem, e1, e2, E.fn], (eqGraph_same p _ _ n n n F T G hn' _ (h6.row.below hR (Nat.le_refl _)) hrow).mono ?_⟩
      rintro e w2 ⟨rfl, hb⟩
      exact ⟨_, rfl, hb, rfl⟩
    · exact OpOk.get RB.refl _ (fun _ => rfl) fun ev w' v hR E pr => by
        have e1 : ev (.tmp 43) = .bool true := E.get pr 3 43
        simp [go_sem, e1]
  intro v10 w10 hR10 hp10
  obtain ⟨p0, p1, p2, p3, p4, _⟩ := hp10
  replace p0 : v10 0 = .agg #[.int .i64 p, .slice (some ⟨b6, 0, none⟩) n n] := p0
  replace p1 : v10 1 = .agg #[.int .i64 p, .slice ao n cap] := p1
  obtain ⟨b10, p2, _⟩ := p2
  replace p2 : v10 2 = .agg #[.int .i64 p, .slice (some ⟨b10, 0, none⟩) n n] := p2
  replace p3 : v10 3 = .bool true := p3
  replace p4 : v10 4 = .bool false := p4
  simp only [putL, Nat.zero_add, Nat.reduceAdd, p0, p1, p2, p3, p4, Act.put, List.setIfInBounds_toArray, List.set_cons_zero, List.set_cons_succ]
  clear p0 p1 p2 p3 p4
  replace hB := RB.trans _ _ _ hB hR10
  replace vA := vA.next hR10
  replace o5 := o5.next hR10
  replace o8 := o8.next hR10
  replace vX := vX.next hR10
  replace h6 := h6.below hR10 h6.lt
  replace s7 := VHas.next s7 hR10
  clear hR10
  go_wp2_with fail
  refine (toStringS_any so m sc S hm' _ (hs.below hB (Nat.le_refl _))).mono ?_
  rintro e w11 ⟨rfl, s11, hb11⟩
  replace hB := RB.trans _ _ _ hB hb11
  replace vA := vA.next hb11
  replace o5 := o5.next hb11
  replace o8 := o8.next hb11
  replace vX := vX.next hb11
  replace h6 := h6.below hb11 h6.lt
  replace s7 := VHas.next s7 hb11
  clear hb11
  go_wp2_with fail
  refine (eqStringS_same _ _ m m m S hm' _ (sthas_row s7) (sthas_row s11)).mono ?_
  rintro e w12 ⟨rfl, hb12⟩
  replace hB := RB.trans _ _ _ hB hb12
  replace vA := vA.next hb12
  replace o5 := o5.next hb12
  replace o8 := o8.next hb12
  replace vX := vX.next hb12
  replace h6 := h6.below hb12 h6.lt
  replace s7 := VHas.next s7 hb12
  clear hb12 s11
  have y0 := vX.cell (j := 0) (by omega)
  have y1 := vX.cell (j := 1) (by omega)
  simp [lf] at y0 y1
  go_wp2_with fail
  refine (markGraph_any p b6 n n _ 1 (by omega) (by omega) hn' _ (fun _ => h6) _ (fun _ => rfl)).mono ?_
  rintro e w13 ⟨rfl, _, hg13⟩
  have hT13 : ∀ x, some b6 = some x → Typed w12 x 82 := fun x e => by
    cases e
    obtain ⟨cur, hc, _⟩ := h6
    exact ⟨_, _, hc⟩
  replace hB := below_row hB hg13 (fun x e => by cases e; omega)
  replace vA := VHas.gr vA hg13 hT13 (by decide)
  replace o5 : OwS w13 _ a5 c5 L := GOwn.gr o5 hg13 hT13 (by decide)
  replace o8 : OwS w13 _ a8 c8 L := GOwn.gr o8 hg13 hT13 (by decide)
  replace s7 : StHas w13 bS m S := VHas.gr s7 hg13 hT13 (by decide)
  clear hg13 hT13 vX h6 y0 y1
  have hMS := markStringS_any bS m m _ (1 + 3 * n) (by omega) (by omega) (by omega) _ (fun _ => s7) _ (fun _ => rfl)
  rw [show ((1 + 3 * n : Nat) : Int) = 1 + 3 * (n : Int) from by omega] at hMS
  go_wp2_with fail
  refine hMS.mono ?_
  clear hMS
  rintro e w14 ⟨rfl, _, hg14⟩
  have hr14 : ∀ x, rw9 m bS = some x → x = bS := fun x e => (rw9_pos e).2
  have hT14 : ∀ x, rw9 m bS = some x → Typed w13 x 9 := fun x e => by rw [hr14 x e]; exact s7.typed
  replace hB := below_row hB hg14 (fun x e => by rw [hr14 x e]; omega)
  replace vA := VHas.gr vA hg14 hT14 (by decide)
  have s5 := o5.far hg14 (fun x e hp => by rw [hr14 x e]; rcases hb65 with q | q <;> omega)
  have hlo8 : 0 < L.length → bS + 1 ≤ bOf a8 := fun hp => by have := (o8.bl hp).2.1; omega
  have s8 := o8.far hg14 (fun x e hp => by rw [hr14 x e]; have := hlo8 hp; omega)
  have h8 : 0 < L.length → VHas w14 (bOf a8) 9 L.length (lf (slc L)) := fun hp => (o8.bl hp).2.2.2.grown hg14 (fun q => by have h9 := hr14 _ q.symm; have := hlo8 hp; omega)
  have ha8 : 0 < L.length → a8 = some ⟨bOf a8, 0, none⟩ := fun hp => (o8.bl hp).1
  clear hg14 hT14 hr14 o5 o8 s7
  have hneg : ¬ ((1 + 3 * n + m : Nat) : Int) < 0 := by omega
  have ecast : ((1 + 3 * n + m : Nat) : Int) = 1 + 3 * (n : Int) + (m : Int) := by omega
  rw [ecast] at hneg ⊢
  go_wp2_with fail
  refine (eqStringS_same a8 a5 L.length c8 c5 (fun j => L.getD j ByteArray.empty) hLl _ s8 s5).mono ?_
  rintro e w15 ⟨rfl, hb15⟩
  replace hB := RB.trans _ _ _ hB hb15
  replace vA := vA.next hb15
  replace s5 := s5.below hb15 (Nat.le_refl _)
  replace h8 : 0 < L.length → VHas w15 (bOf a8) 9 L.length (lf (slc L)) := fun hp => (h8 hp).next hb15
  clear hb15 s8
  go_wp2_with fail
  have hMS := markStringS_any (bOf a8) L.length c8 _ 1 (by omega) (by omega) (by omega) _ h8 _ ha8
  rw [show ((1 : Nat) : Int) = 1 from rfl] at hMS
  refine hMS.mono ?_
  clear hMS
  rintro e w16 ⟨rfl, k8, hg16⟩
  have hT16 : ∀ x, rw9 L.length (bOf a8) = some x → Typed w15 x 9 := fun x e => by rw [(rw9_pos e).2]; exact (h8 (rw9_pos e).1).typed
  replace hB := below_row hB hg16 (fun x e => by rw [(rw9_pos e).2]; have := hlo8 (rw9_pos e).1; omega)
  replace vA := VHas.gr vA hg16 hT16 (by decide)
  replace s5 := SRow.far s5 hg16 (fun x e hp => by rw [(rw9_pos e).2]; have := hlo8 hp; rcases hb65 with q | q <;> omega)
  clear hg16 hT16 h8
  have e16 : ((1 + L.length : Nat) : Int) = 1 + (L.length : Int) := by omega
  rw [e16]
  go_wp2_with fail
  have hMS := heldStringS_any (bOf a8) L.length c8 1 (by omega) (by omega) (by omega) _ k8 _ ha8
  rw [show ((1 : Nat) : Int) = 1 from rfl] at hMS
  refine hMS.mono ?_
  clear hMS
  rintro e w17 ⟨rfl, hb17⟩
  rw [e16]
  replace hB := RB.trans _ _ _ hB hb17
  replace vA := vA.next hb17
  replace s5 := s5.below hb17 (Nat.le_refl _)
  replace k8 : 0 < L.length → VHas w17 (bOf a8) 9 L.length (mkS 1) := fun hp => (k8 hp).next hb17
  have hn1 : ¬ 1 + (L.length : Int) < 0 := by omega
  have hn2 : (1 + (L.length : Int) != 1 + (L.length : Int)) = false := by simp
  clear hb17
  have x0 := vA.cell (j := 0) (by omega)
  have x1 := vA.cell (j := 1) (by omega)
  simp [lf] at x0 x1
  go_wp2_with fail
  refine (toGraph_any p ao n cap F T G hn' _ (hr.below hB (Nat.le_refl _))).mono ?_
  rintro e w18 ⟨b18, rfl, _, r18, hb18⟩
  replace hB := RB.trans _ _ _ hB hb18
  replace s5 := s5.below hb18 (Nat.le_refl _)
  replace k8 : 0 < L.length → VHas w18 (bOf a8) 9 L.length (mkS 1) := fun hp => (k8 hp).next hb18
  replace r18 := r18.row
  clear hb18 x0 x1 vA
  go_wp2_with fail
  refine (toStringS_any so m sc S hm' _ (hs.below hB (Nat.le_refl _))).mono ?_
  rintro e w19 ⟨rfl, s19, hb19⟩
  replace hB := RB.trans _ _ _ hB hb19
  replace s5 := s5.below hb19 (Nat.le_refl _)
  replace k8 : 0 < L.length → VHas w19 (bOf a8) 9 L.length (mkS 1) := fun hp => (k8 hp).next hb19
  replace r18 := r18.below hb19 (Nat.le_refl _)
  clear hb19
  go_wp2_with fail
  refine (HI.out _ _ _ _ _ (ht.below hB (Nat.le_refl _)) r18 (sthas_row s19)).mono ?_
  rintro e w20 ⟨a20, c20, rfl, o20, hb20⟩
  replace hB := RB.trans _ _ _ hB hb20
  replace s5 := s5.below hb20 (Nat.le_refl _)
  replace k8 : 0 < L.length → VHas w20 (bOf a8) 9 L.length (mkS 1) := fun hp => (k8 hp).next hb20
  clear hb20 r18 s19
  go_wp2_with fail
  refine (eqStringS_same a20 a5 L.length c20 c5 (fun j => L.getD j ByteArray.empty) hLl _ o20.srow s5).mono ?_
  rintro e w21 ⟨rfl, hb21⟩
  replace hB := RB.trans _ _ _ hB hb21
  replace k8 : 0 < L.length → VHas w21 (bOf a8) 9 L.length (mkS 1) := fun hp => (k8 hp).next hb21
  clear hb21
  go_wp2_with fail
  have hMS := heldStringS_any (bOf a8) L.length c8 1 (by omega) (by omega) (by omega) _ k8 _ ha8
  rw [show ((1 : Nat) : Int) = 1 from rfl] at hMS
  refine hMS.mono ?_
  clear hMS
  rintro e w22 ⟨rfl, hb22⟩
  rw [e16]
  go_wp2
  go_ret
  exact ⟨rfl, RB.trans _ _ _ hB hb22⟩

end Go.Proofs.YticckgmkhgnmfaaDoor
