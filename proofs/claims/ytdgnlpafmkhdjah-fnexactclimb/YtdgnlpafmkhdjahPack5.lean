/-
  Helpers, merged: FillI, RangeBox, MetO, Turns, IntsLaw, OpenInts.
-/
import Derived.Test.YtdgnlpafmkhdjahPack3
import Derived.Test.YtdgnlpafmkhdjahPack1
import Derived.Test.YtdgnlpafmkhdjahPack4
import Derived.Test.YtdgnlpafmkhdjahPack2
/-
  The fill, the program's: the edges as they come, then sorted. For maps of at most 24 places and orders that have each place once.
-/
set_option linter.unusedVariables false
set_option linter.unusedSimpArgs false
namespace Go.Proofs.Ytdgnlpafmkhdjah
open Go.RowKit Go.Shelf
attribute [local go_sem] Oper.semAt_some

theorem below_grownN {w w' : World} {row : Option Nat} (h : Below w.heap.size w w') : w.grownBy w' row := ⟨h.os, h.tape, h.output, h.size, fun k hk _ => h.block k hk⟩
/-- What stands while the program makes the fill. -/
structure FI (w : World) (gv : Value) (p eb kb rb bm capR : Nat) (B : Nat → Nat → Bool) (gone : Nat → Bool) (R : Nat → Int) (g c : Nat) (l : List Pr) (W : World) : Prop where
  bel : Below (w.heap.size + 1) (w.alloc (.cells #[.int .i64 (p : Int), gv] 47)) W
  ebx : Boxed W eb 31 (.slice (some ⟨g, 0, none⟩) l.length c)
  kbx : Boxed W kb 22 (.slice (some ⟨rb, 0, none⟩) p capR)
  rks : IHas W rb p R
  mesh : MeshAt W bm (p : Int) B gone
  own : EOwn W (w.heap.size + 1) g c l
  ne : ((g ≠ eb ∧ g ≠ kb ∧ g ≠ rb ∧ g ≠ bm) ∧ eb ≠ kb ∧ eb ≠ rb ∧ eb ≠ bm) ∧ (bm ≠ kb ∧ bm ≠ rb ∧ kb ≠ rb) ∧ w.heap.size + 1 ≤ eb ∧ w.heap.size + 1 ≤ kb ∧ w.heap.size + 1 ≤ rb ∧ w.heap.size + 1 ≤ bm
section
variable {w : World} {gv : Value} {p eb kb rb bm capR : Nat} {B : Nat → Nat → Bool} {gone : Nat → Bool} {R : Nat → Int} {g c : Nat} {l : List Pr} {W W' : World}
/-- Where nothing of these has turned. -/
theorem FI.kept (h : FI w gv p eb kb rb bm capR B gone R g c l W) {row : Option Nat} (hg : W.grownBy W' row) (hr : ∀ r, row = some r → w.heap.size + 1 ≤ r ∧ r ≠ eb ∧ r ≠ kb ∧ r ≠ rb ∧ r ≠ bm ∧ r ≠ g) : FI w gv p eb kb rb bm capR B gone R g c l W' := by
  have hz := h.bel.size
  simp at hz
  have key : ∀ x, (x = eb ∨ x = kb ∨ x = rb ∨ x = bm ∨ x = g) → some x ≠ row := fun x hx e => by
    have := hr x e.symm
    omega
  refine ⟨?_, h.ebx.kept hg (key _ (by simp)), h.kbx.kept hg (key _ (by simp)), h.rks.grown hg (key _ (by simp)), VHas.grown h.mesh hg (key _ (by simp)), h.own.grown hg (key _ (by simp)), h.ne⟩
  refine h.bel.trans ⟨hg.os, hg.tape, hg.output, hg.size, fun k hk => hg.block k (by omega) (fun e => ?_)⟩
  have := hr k e.symm
  omega
theorem FI.next (h : FI w gv p eb kb rb bm capR B gone R g c l W) (hb : Below W.heap.size W W') : FI w gv p eb kb rb bm capR B gone R g c l W' := h.kept (below_grownN (row := none) hb) (fun r e => by cases e)
theorem FI.taken (h : FI w gv p eb kb rb bm capR B gone R g c l W) {B' : Nat → Nat → Bool} {gone' : Nat → Bool} (hg : W.grownBy W' (some bm)) (hm : MeshAt W' bm (p : Int) B' gone') : FI w gv p eb kb rb bm capR B' gone' R g c l W' := by
  have hz := h.bel.size
  have hn := h.ne
  simp at hz
  exact ⟨h.bel.trans (gr_below hg (by omega) (by omega)), h.ebx.kept hg (by simp; omega), h.kbx.kept hg (by simp; omega), h.rks.grown hg (by simp; omega), hm, h.own.grown hg (by simp; omega), hn⟩
/-- Behind an append, whose answer has been put into the box. -/
theorem FI.longer (h : FI w gv p eb kb rb bm capR B gone R g c l W) (hg : W.grownBy W' (some g)) {g' c' : Nat} {l' : List Pr} (ho : EOwn W' (w.heap.size + 1) g' c' l') (hat : g' = g ∨ g' = W.heap.size) :
    FI w gv p eb kb rb bm capR B gone R g' c' l' (W'.setCell ⟨eb, 0, none⟩ (.slice (some ⟨g', 0, none⟩) l'.length c')) := by
  have hz := h.bel.size
  have hn := h.ne
  have h1 := h.own.base
  have h2 := h.ebx.lt
  have h3 := h.kbx.lt
  have h4 := h.rks.lt
  have h5 := VHas.lt h.mesh
  simp at hz
  have hs := gr_setCell W' eb 0 (.slice (some ⟨g', 0, none⟩) l'.length c')
  have he := h.ebx.kept hg (by simp; omega)
  have hz' := hg.size
  refine ⟨(h.bel.trans (gr_below hg (by omega) (by omega))).trans (gr_below hs (by omega) (by omega)), he.set _, (h.kbx.kept hg (by simp; omega)).kept hs (by simp; omega), (h.rks.grown hg (by simp; omega)).grown hs (by simp; omega), VHas.grown (VHas.grown h.mesh hg (by simp; omega)) hs (by simp; omega), ho.grown hs (by simp; omega), by omega⟩
/-- Where only what is no cells has turned. -/
theorem FI.other (h : FI w gv p eb kb rb bm capR B gone R g c l W) {row : Option Nat} (hg : W.grownBy W' row) (hr : ∀ r, row = some r → w.heap.size + 1 ≤ r ∧ ∃ o : Obj, W.heap[r]? = some o ∧ o.isCells = false) : FI w gv p eb kb rb bm capR B gone R g c l W' := by
  refine h.kept hg (fun r e => ?_)
  obtain ⟨h1, o, h2, h3⟩ := hr r e
  have key : ∀ k cur t m, W.heap[k]? = some (.cells cur t m) → r ≠ k := fun k cur t m hk e => by
    subst e
    rw [h2] at hk
    simp at hk
    subst hk
    cases h3
  obtain ⟨c1, e1, _⟩ := h.rks
  obtain ⟨c2, e2, _⟩ := h.mesh
  obtain ⟨c3, e3, _⟩ := h.own.has
  exact ⟨h1, key _ _ _ _ h.ebx, key _ _ _ _ h.kbx, key _ _ _ _ e1, key _ _ _ _ e2, key _ _ _ _ e3⟩
end
theorem allU_len {B : Nat → Nat → Bool} {P : Nat → Int} {p : Nat} (hp : p ≤ 24) : ∀ R, (allU B P p R).length ≤ 24 * R
  | 0 => Nat.le_refl _
  | R + 1 => by
    show (allU B P p R ++ rowU B P p R p).length ≤ _
    have h1 := allU_len (B := B) (P := P) hp R
    have h2 := cntB_le (sqO B P R (P R).toNat) p
    have h3 : (rowU B P p R p).length = cntB (sqO B P R (P R).toNat) p := by unfold rowU; rw [List.length_map, visF_len]
    rw [List.length_append, h3]; omega
theorem Marked.grown {W W' : World} {Ds : List Nat} {row : Option Nat} (h : Marked W Ds) (hg : W.grownBy W' row) (hr : ∀ D ∈ Ds, row = some D → False) : Marked W' Ds :=
  ⟨h.1, fun D hD => (hg.block D (Array.getElem?_eq_some_iff.1 (h.2 D hD)).1 (fun e => hr D hD e.symm)).trans (h.2 D hD)⟩
theorem keeps_cells {B0 b : Nat} {W W' : World} (hg : W.grownBy W' (some b)) (hc : ∃ cur t m, W.heap[b]? = some (.cells cur t m)) : KeepsFrom B0 W W' :=
  ⟨hg.size, fun k o _ hk ho => (hg.block k (Array.getElem?_eq_some_iff.1 hk).1 (fun e => by
    obtain ⟨cur, t, m, hc⟩ := hc
    simp at e
    rw [e, hc] at hk
    simp at hk
    subst hk
    cases ho)).trans hk⟩
theorem keeps_below {B0 : Nat} {W W' : World} (hb : Below W.heap.size W W') : KeepsFrom B0 W W' := ⟨hb.size, fun k o _ hk _ => (hb.block k (Array.getElem?_eq_some_iff.1 hk).1).trans hk⟩
/-- What stands while the neighbours of one place are gone through. -/
def FR (w : World) (gv : Value) (p eb kb rb bm capR : Nat) (B : Nat → Nat → Bool) (gone : Nat → Bool) (R : Nat → Int) (l0 : List Pr) (r a s0 : Nat) (Ds : List Nat) (pre : List Nat) (W : World) : Prop :=
  (∃ g c, FI w gv p eb kb rb bm capR B gone R g c (l0 ++ pre.map (fun q => ((r : Int), R q))) W ∧ g ≠ s0 ∧ g ≠ s0 + 1 ∧ g ≠ s0 + 1 + 1) ∧
    Boxed W s0 3 (.int .i64 (r : Int)) ∧ Boxed W (s0 + 1) 132 (.pointer (some ⟨bm, 0, none⟩)) ∧ Boxed W (s0 + 1 + 1) 2 (.int .i64 (a : Int)) ∧ Marked W Ds
theorem FR.own {w : World} {gv : Value} {p eb kb rb bm capR : Nat} {B : Nat → Nat → Bool} {gone : Nat → Bool} {R : Nat → Int} {l0 : List Pr} {r a s0 : Nat} {Ds : List Nat} {B0 : Nat} (hB : w.heap.size + 1 ≤ B0) (hD : ∀ D ∈ Ds, D < B0) : OwnFrom B0 (FR w gv p eb kb rb bm capR B gone R l0 r a s0 Ds) := by
  rintro pre X Y row ⟨⟨g, c, h1, h2⟩, h3, h4, h5, h6⟩ hg hr
  have key : ∀ k cur t m, X.heap[k]? = some (.cells cur t m) → some k ≠ row := fun k cur t m hk e => by
    obtain ⟨_, o, h2, h3⟩ := hr k e.symm
    rw [h2] at hk
    simp at hk
    subst hk
    cases h3
  refine ⟨⟨g, c, h1.other hg (fun j e => ⟨by have := (hr j e).1; omega, (hr j e).2⟩), h2⟩, h3.kept hg (key _ _ _ _ h3), h4.kept hg (key _ _ _ _ h4), h5.kept hg (key _ _ _ _ h5), h6.grown hg (fun D hD' e => ?_)⟩
  have := (hr D e).1
  have := hD D hD'
  omega
set_option maxRecDepth 100000 in
set_option maxHeartbeats 8000000 in
theorem implFill_walk (p : Nat) (ao : Option Addr) (n cap : Nat) (F T G : Nat → Int) (po : Option Addr) (pcap : Nat) (P : Nat → Int) (hp1 : 1 ≤ p) (hp : p ≤ 24) (hn : n ≤ 100) (hF : ∀ k, k < n → 0 ≤ F k ∧ F k < (p : Int)) (hT : ∀ k, k < n → 0 ≤ T k ∧ T k < (p : Int)) (hFT : ∀ k, k < n → F k ≠ T k) (hok : ordB (p : Int) n F T G p P = true) (w : World) (hr : Row w ao n F T G) (hq : IRow w po p P) :
    Calls Try.prog 100 #[.agg #[.int .i64 (p : Int), .slice ao n cap], .slice po p pcap] w fun e w' => ∃ g c, e = .returned (.slice (some ⟨g, 0, none⟩) (allS (nbA F T n) P p p).length c) ∧ (allS (nbA F T n) P p p).length ≤ c ∧ w.heap.size ≤ g ∧ ELies w' g (allS (nbA F T n) P p p) ∧ Below w.heap.size w w' := by
  have hfair : Fair (nbA F T n) := fair_nbA n (fun k hk => by have := hF k hk; have := hT k hk; have := hFT k hk; omega)
  have hwi : Within p (nbA F T n) := within_nbA n (fun k hk => by have := hF k hk; have := hT k hk; omega)
  have hmo := fun W hr' => meshOf_any p ao n cap F T G hp hn hF hT hFT W hr'
  generalize nbA F T n = B at hfair hwi hmo ⊢
  have he : eachB p P p = true := by simp [ordB, okR] at hok; exact hok.2.2.2
  have HMO : Hid (∀ W, Row W ao n F T G → Calls Try.prog 111 #[.agg #[.int .i64 (p : Int), .slice ao n cap]] W fun e w' => ∃ bm, e = .returned (.pointer (some ⟨bm, 0, none⟩)) ∧ W.heap.size ≤ bm ∧ MeshAt w' bm (p : Int) B (fun _ => false) ∧ Below W.heap.size W w') := hmo
  clear hF hT hFT hmo
  have hL : lenR p P = p := by simp [lenR, okR, he]; omega
  refine (callsIn_wide (n := 8)).1 ?_
  refine callsIn_of_wp_marks Try.func100 rfl trivial ?_ rfl
  simp only [Try.ntmps100, List.size_toArray, List.length_cons, List.length_nil, Nat.reduceAdd, Nat.reduceSub, Array.replicate_succ, Array.replicate_zero, List.push_toArray, List.append_toArray, List.nil_append, List.cons_append]
  gi_wp2_with fail
  refine ⟨trivial, ?_⟩
  have hA0 : Below (w.heap.size + 1) (w.alloc (.cells #[.int .i64 (p : Int), .slice ao n cap] 47)) (((w.alloc (.cells #[.int .i64 (p : Int), .slice ao n cap] 47)).alloc (.cells #[] 71)).alloc (.cells #[.slice (some ⟨w.heap.size + 1, 0, none⟩) 0 0] 31)) := ((Below.refl _ _).alloc (by simp) _).alloc (by simp) _
  have hE0 : EOwn (((w.alloc (.cells #[.int .i64 (p : Int), .slice ao n cap] 47)).alloc (.cells #[] 71)).alloc (.cells #[.slice (some ⟨w.heap.size + 1, 0, none⟩) 0 0] 31)) (w.heap.size + 1) (w.heap.size + 1) 0 [] := by
    have := EOwn.empty (w.alloc (.cells #[.int .i64 (p : Int), .slice ao n cap] 47)) (base := w.heap.size + 1) (by simp)
    simp only [World.size_alloc] at this
    exact this.next ((Below.refl _ _).alloc (Nat.le_refl _) _)
  have hX0 : Boxed (((w.alloc (.cells #[.int .i64 (p : Int), .slice ao n cap] 47)).alloc (.cells #[] 71)).alloc (.cells #[.slice (some ⟨w.heap.size + 1, 0, none⟩) 0 0] 31)) (w.heap.size + 1 + 1) 31 (.slice (some ⟨w.heap.size + 1, 0, none⟩) 0 0) := by
    have := Boxed.new ((w.alloc (.cells #[.int .i64 (p : Int), .slice ao n cap] 47)).alloc (.cells #[] 71)) 31 (.slice (some ⟨w.heap.size + 1, 0, none⟩) 0 0)
    simp only [World.size_alloc] at this
    exact this
  refine (callsIn_wide.2 (implOrderOk_any (p : Int) ao n cap F T G po p pcap P (by omega) (by omega) _ ((hr.alloc _).below hA0 (by simp)) ((hq.alloc _).below hA0 (by simp)))).mono ?_
  rintro e w1 ⟨rfl, hb1⟩
  have hA1 := below_next hA0 (by simp) hb1
  have hE1 := hE0.next hb1
  have hX1 := hX0.kept (below_grownN (row := none) hb1) (by simp)
  clear hA0 hE0 hX0 hb1
  rw [hok]
  obtain ⟨x0, x1, xs⟩ := box2 hA1
  gi_wp2_with fail
  refine ⟨trivial, ?_⟩
  refine (callsIn_wide.2 (implRanks_any po p pcap P (by omega) _ ((hq.alloc _).below hA1 (by simp)))).mono ?_
  rintro e w2 ⟨aoR, capR, rfl, hR, hb2⟩
  rw [hL] at hR ⊢
  obtain ⟨rb, rfl, hrb, hR2⟩ := hR (by omega)
  have hA2 := below_next hA1 (by simp) hb2
  have hE2 := hE1.next hb2
  have hX2 := hX1.kept (below_grownN (row := none) hb2) (by simp)
  have hel := hE1.lt
  have hxl := hX1.lt
  clear hA1 hE1 hX1 hR x0 x1
  obtain ⟨x0, x1, xs2⟩ := box2 hA2
  gi_wp2_with fail
  refine ⟨trivial, ?_⟩
  have hal := (Below.refl w2.heap.size w2).alloc (Nat.le_refl _) (.cells #[.slice (some ⟨rb, 0, none⟩) p capR] 22)
  have hA3 := below_next hA2 (by simp) hal
  have hK3 := Boxed.new w2 22 (.slice (some ⟨rb, 0, none⟩) p capR)
  refine (callsIn_wide.2 (HMO.out _ ((hr.alloc _).below hA3 (by simp)))).mono ?_
  rintro e w4 ⟨bm, rfl, hbm, hM4, hb4⟩
  have hml := VHas.lt hM4
  have hrl := hR2.lt
  have hsz2 := hb2.size
  have hI4 : FI w (.slice ao n cap) p (w.heap.size + 1 + 1) w2.heap.size rb bm capR B (fun _ => false) (rk P (-1) p) (w.heap.size + 1) 0 [] w4 := by
    refine ⟨below_next hA3 (by simp) hb4, ?_, ?_, ?_, hM4, (hE2.next hal).next hb4, ?_⟩
    · exact (hX2.alloc _).kept (below_grownN (row := none) hb4) (by simp)
    · exact hK3.kept (below_grownN (row := none) hb4) (by simp)
    · exact (hR2.below hal hrl).below hb4 (by simp; omega)
    · simp at hbm
      omega
  simp only [World.size_alloc] at hbm
  clear hA2 hA3 hE2 hX2 hK3 hR2 hM4 hb4 hb2 hal x0 x1
  generalize w2.heap.size = kb at hI4 hbm hrl ⊢
  gi_wp2_with fail
  refine wpIn_loop (fun a' w' => ∃ (r g c : Nat) (gone : Nat → Bool) (Ds : List Nat) (u8 u9 u24 u25 u26 u27 u28 u29 u30 u41 u42 u43 u44 : Value), (r ≤ p ∧ Marked w' Ds ∧ (∀ D ∈ Ds, w.heap.size + 1 ≤ D) ∧ FI w (.slice ao n cap) p (w.heap.size + 1 + 1) kb rb bm capR (sqO B P r) gone (rk P (-1) p) g c (allU B P p r) w') ∧ a' = { tmps := #[.agg #[.int .i64 (p : Int), .slice ao n cap], .slice po p pcap, .pointer (some ⟨w.heap.size, 0, none⟩), undef, .slice none 0 0, .pointer (some ⟨w.heap.size + 1 + 1, 0, none⟩), .pointer (some ⟨kb, 0, none⟩), .pointer (some ⟨bm, 0, none⟩), u8, u9, undef, .slice (some ⟨w.heap.size + 1, 0, none⟩) 0 0, .agg #[.int .i64 (p : Int), .slice ao n cap], .slice po p pcap, .bool true, .bool false, undef, .slice po p pcap, .slice (some ⟨rb, 0, none⟩) p capR, .agg #[.int .i64 (p : Int), .slice ao n cap], .pointer (some ⟨bm, 0, none⟩), .slice po p pcap, .int .i64 (p : Int), .int .i64 (r : Int), u24, u25, u26, u27, u28, u29, u30, undef, undef, undef, undef, undef, undef, undef, undef, undef, undef, u41, u42, u43, u44, undef, undef, undef], defers := marks Ds }) (fun a' _ => p - (intOf (a'.tmps.getD 23 undef)).toNat) ?start ?round
  case start => exact ⟨0, _, _, _, [], _, _, _, _, _, _, _, _, _, _, _, _, _, ⟨Nat.zero_le _, ⟨List.nodup_nil, fun D hD => by cases hD⟩, (fun D hD => by cases hD), hI4⟩, rfl⟩
  case round =>
    clear hI4
    rintro a1 wr ⟨r, g, c, gone, Ds, u8, u9, u24, u25, u26, u27, u28, u29, u30, u41, u42, u43, u44, ⟨hrp, hMk, hDg, hI⟩, rfl⟩
    by_cases hlt : r < p
    rotate_left
    · have e : r = p := by omega
      subst e
      have c1 := hI.ebx.cell
      have hlen := allU_len (B := B) (P := P) hp r
      gi_wp2_with fail
      refine ⟨trivial, ?_⟩
      refine (callsIn_wide.2 (sortBy_any g c (allU B P r r) (by omega) wr hI.own.has)).mono ?_
      rintro e w6 ⟨rfl, ⟨l', hl1, hl2, hl3, hl4⟩, hg6⟩
      have hfs := fill_same hfair he hl2 hl3
      subst hfs
      have hne := hI.ne
      have hgb := hI.own.base
      have c2 := (hI.ebx.kept hg6 (by simp; omega)).cell
      have hz := hI.bel.size
      simp at hz
      have hbel6 := hI.bel.trans (gr_below hg6 (by omega) (by omega))
      have hMk6 : Marked w6 Ds := hMk.grown hg6 (fun D hD e => by
        have h1 := hMk.2 D hD
        obtain ⟨cc, h2, _⟩ := hI.own.has
        simp at e
        subst e
        rw [h1] at h2
        cases h2)
      gi_wp2
      refine leaves_marks Ds _ hMk6 (fun w' h1 h2 h3 h4 h5 => ?_)
      have hnl : g ∉ Ds := fun hD => by
        have h1 := hMk.2 g hD
        obtain ⟨cc, h2, _⟩ := hI.own.has
        rw [h1] at h2
        cases h2
      refine ⟨_, results_tmp rfl _ _ _, g, c, by rw [hl1]; rfl, by have h := hI.own.room; omega, by omega, EHas.of_block hl4 (h5 g hnl), ?_⟩
      have hub := unbox hbel6 (Nat.le_succ _)
      exact ⟨h1.trans hub.os, h2.trans hub.tape, h3.trans hub.output, by rw [h4]; exact hub.size, fun k hk => (h5 k (fun hD => by have := hDg k hD; omega)).trans (hub.block k hk)⟩
    have hlt' : (r : Int) < (p : Int) := by omega
    have hr0 : (0 : Int) ≤ (r : Int) := by omega
    obtain ⟨ha0, ha1⟩ := (each_in p he r hlt).1
    obtain ⟨a, ha⟩ : ∃ a : Nat, P r = (a : Int) := ⟨(P r).toNat, by omega⟩
    have hap : a < p := by omega
    obtain ⟨b, o, hpo, c0⟩ := ((hq.alloc _).below hI.bel (by simp)) r hlt
    subst hpo
    rw [ha] at c0
    gi_wp2_with fail
    refine ⟨trivial, ?_⟩
    refine (callsIn_wide.2 (neighbours_any bm (a : Int) _)).mono ?_
    rintro e w5 ⟨rfl, rfl⟩
    have hz := hI.bel.size
    simp at hz
    have hgl := hI.own.lt
    have hmb := VHas.lt hI.mesh
    have hkl := hI.kbx.lt
    have hrl2 := hI.rks.lt
    have hxl2 := hI.ebx.lt
    have bR := ((Boxed.new wr 3 (.int .i64 (r : Int))).alloc (.cells #[.pointer (some ⟨bm, 0, none⟩)] 132)).alloc (.cells #[.int .i64 (a : Int)] 2)
    have bM := (Boxed.new (wr.alloc (.cells #[.int .i64 (r : Int)] 3)) 132 (.pointer (some ⟨bm, 0, none⟩))).alloc (.cells #[.int .i64 (a : Int)] 2)
    have bP := Boxed.new ((wr.alloc (.cells #[.int .i64 (r : Int)] 3)).alloc (.cells #[.pointer (some ⟨bm, 0, none⟩)] 132)) 2 (.int .i64 (a : Int))
    simp only [World.size_alloc] at bM bP
    have hB0 : Below wr.heap.size wr (((wr.alloc (.cells #[.int .i64 (r : Int)] 3)).alloc (.cells #[.pointer (some ⟨bm, 0, none⟩)] 132)).alloc (.cells #[.int .i64 (a : Int)] 2)) := (((Below.refl _ wr).alloc (Nat.le_refl _) _).alloc (by simp) _).alloc (by simp; omega) _
    have hI5 := hI.next hB0
    have hMk5 : Marked (((wr.alloc (.cells #[.int .i64 (r : Int)] 3)).alloc (.cells #[.pointer (some ⟨bm, 0, none⟩)] 132)).alloc (.cells #[.int .i64 (a : Int)] 2)) Ds := hMk.grown (below_grownN (row := none) hB0) (fun D _ e => by cases e)
    have hsz : (((wr.alloc (.cells #[.int .i64 (r : Int)] 3)).alloc (.cells #[.pointer (some ⟨bm, 0, none⟩)] 132)).alloc (.cells #[.int .i64 (a : Int)] 2)).heap.size = wr.heap.size + 3 := by simp
    generalize ((wr.alloc (.cells #[.int .i64 (r : Int)] 3)).alloc (.cells #[.pointer (some ⟨bm, 0, none⟩)] 132)).alloc (.cells #[.int .i64 (a : Int)] 2) = W0 at bR bM bP hB0 hI5 hMk5 hsz ⊢
    clear hI hMk c0
    have hDl : ∀ D ∈ Ds, D < W0.heap.size := fun D hD => (Array.getElem?_eq_some_iff.1 (hMk5.2 D hD)).1
    gi_wp2
    refine range_alone rfl (by omega) (gf := 122) (lb := #[.pointer (some ⟨wr.heap.size + 1, 0, none⟩), .pointer (some ⟨wr.heap.size + 1 + 1, 0, none⟩)]) rfl trivial (enters_of Try.func122 (by kernel_rfl) rfl)
      (encs := fun x : Nat => #[Value.int .i64 (x : Int)]) (fun _ => rfl) (FR w (.slice ao n cap) p (w.heap.size + 1 + 1) kb rb bm capR (sqO B P r) gone (rk P (-1) p) (allU B P p r) r a wr.heap.size Ds) ?own ?h0
      (iter_seq 7 (by omega) (wr.heap.size + 1) (wr.heap.size + 1 + 1) bm p a hp (by omega) _ (fun _ => sqO B P r a) ?reads (fun pre x => x < p ∧ pre.length ≤ 24) (fun k hk _ => ⟨hk, by
        have h1 := visF_len (sqO B P r a) k
        have h2 := cntB_le (sqO B P r a) k
        unfold visF at h1
        omega⟩) W0)
      (fun x a' _ => a' = { tmps := #[.agg #[.int .i64 (p : Int), .slice ao n cap], .slice (some ⟨b, o, none⟩) p pcap, .pointer (some ⟨w.heap.size, 0, none⟩), undef, .slice none 0 0, .pointer (some ⟨w.heap.size + 1 + 1, 0, none⟩), .pointer (some ⟨kb, 0, none⟩), .pointer (some ⟨bm, 0, none⟩), .pointer (some ⟨wr.heap.size, 0, none⟩), .int .i64 (a : Int), .int .i64 (x : Int), .slice (some ⟨w.heap.size + 1, 0, none⟩) 0 0, .agg #[.int .i64 (p : Int), .slice ao n cap], .slice (some ⟨b, o, none⟩) p pcap, .bool true, .bool false, undef, .slice (some ⟨b, o, none⟩) p pcap, .slice (some ⟨rb, 0, none⟩) p capR, .agg #[.int .i64 (p : Int), .slice ao n cap], .pointer (some ⟨bm, 0, none⟩), .slice (some ⟨b, o, none⟩) p pcap, .int .i64 (p : Int), .int .i64 (r : Int), .bool true, .int .i64 (r : Int), .pointer (some ⟨b, o + r, none⟩), .int .i64 (a : Int), .pointer (some ⟨bm, 0, none⟩), .int .i64 (a : Int), .func (.func 122) #[] #[.pointer (some ⟨wr.heap.size + 1, 0, none⟩), .pointer (some ⟨wr.heap.size + 1 + 1, 0, none⟩)], .int .i64 (x : Int), undef, undef, undef, undef, undef, undef, undef, undef, undef, u41, u42, u43, u44, undef, undef, undef], defers := [] })
      (fun _ _ _ _ _ _ hs _ _ => hs)
      ?assign ?body ?done
    case own => exact FR.own (by omega) hDl
    case h0 => exact ⟨⟨g, c, by simpa using hI5, by omega, by omega, by omega⟩, bR, bM, bP, hMk5⟩
    case reads =>
      rintro pre W ⟨⟨g', c', h1, _⟩, _, h3, h4, _⟩
      exact Reads.of_mesh (by omega) h3.cell h4.cell h1.mesh
    case assign =>
      rintro l pre x W K hi _ hK
      gi_wp2
      exact hK _ _ (KeepsFrom.refl _ _) hi rfl
    case body =>
      rintro l pre x a' W hl hrec hi ⟨hxp, hpl⟩ rfl
      gi_wp2
      obtain ⟨⟨g', c', hF, n1, n2, n3⟩, bR', bM', bP', hMk'⟩ := hi
      have hlU := allU_len (B := B) (P := P) hp r
      have hl24 : (allU B P p r ++ pre.map (fun q => ((r : Int), rk P (-1) p q))).length ≤ 1000000 := by
        rw [List.length_append, List.length_map]
        omega
      have hsn : allU B P p r ++ (pre ++ [x]).map (fun q => ((r : Int), rk P (-1) p q)) = allU B P p r ++ pre.map (fun q => ((r : Int), rk P (-1) p q)) ++ [((r : Int), rk P (-1) p x)] := by simp
      have HSN : Hid (allU B P p r ++ (pre ++ [x]).map (fun q => ((r : Int), rk P (-1) p q)) = allU B P p r ++ pre.map (fun q => ((r : Int), rk P (-1) p q)) ++ [((r : Int), rk P (-1) p x)]) := hsn
      clear hsn
      generalize allU B P p r ++ pre.map (fun q => ((r : Int), rk P (-1) p q)) = l1 at hF hl24 HSN
      have e0 := hF.ebx.cell
      have z0 := hF.ebx.frozen
      have e1 := bR'.cell
      have e2 := hF.kbx.cell
      have e5 := hF.rks.cell hxp
      have hxp' : (x : Int) < (p : Int) := by omega
      have hx0 : (0 : Int) ≤ (x : Int) := by omega
      have hS0 : (fun V : World => V.cell? ⟨wr.heap.size, 0, none⟩ = some (.int .i64 (r : Int)) ∧ V.cell? ⟨kb, 0, none⟩ = some (.slice (some ⟨rb, 0, none⟩) p capR) ∧ V.cell? ⟨rb, x, none⟩ = some (.int .i64 (rk P (-1) p x))) W.drew := ⟨e1, e2, e5⟩
      refine region_round (fun V : World => V.cell? ⟨wr.heap.size, 0, none⟩ = some (.int .i64 (r : Int)) ∧ V.cell? ⟨kb, 0, none⟩ = some (.slice (some ⟨rb, 0, none⟩) p capR) ∧ V.cell? ⟨rb, x, none⟩ = some (.int .i64 (rk P (-1) p x))) (by kernel_rfl) (by kernel_rfl) (fun ⟨_, _, h⟩ => by simp [Exit.inBlock, roundQ] at h) ?_
      refine wpAnyH_take (i := 3) (v := .int .i64 (x : Int)) rfl (by kernel_rfl) (by kernel_rfl) (by kernel_rfl) (fun _ _ _ h => h) (Or.inl ⟨by rfl, fun V hV => ?_⟩) hS0 ?_
      · obtain ⟨v1, v2, v3⟩ := hV
        go_simp
      simp only [Act.put, List.setIfInBounds_toArray, List.set_cons_succ, List.set_cons_zero]
      refine wpAnyH_take (i := 2) (v := .slice (some ⟨rb, 0, none⟩) p capR) rfl (by kernel_rfl) (by kernel_rfl) (by kernel_rfl) (fun _ _ _ h => h) (Or.inl ⟨by rfl, fun V hV => ?_⟩) hS0 ?_
      · obtain ⟨v1, v2, v3⟩ := hV
        go_simp
      simp only [Act.put, List.setIfInBounds_toArray, List.set_cons_succ, List.set_cons_zero]
      refine wpAnyH_take (i := 4) (v := .pointer (some ⟨rb, x, none⟩)) rfl (by kernel_rfl) (by kernel_rfl) (by kernel_rfl) (fun _ _ _ h => h) (Or.inl ⟨by rfl, fun V hV => ?_⟩) hS0 ?_
      · obtain ⟨v1, v2, v3⟩ := hV
        go_simp
      simp only [Act.put, List.setIfInBounds_toArray, List.set_cons_succ, List.set_cons_zero]
      refine wpAnyH_take (i := 5) (v := .int .i64 (rk P (-1) p x)) rfl (by kernel_rfl) (by kernel_rfl) (by kernel_rfl) (fun _ _ _ h => h) (Or.inl ⟨by rfl, fun V hV => ?_⟩) hS0 ?_
      · obtain ⟨v1, v2, v3⟩ := hV
        go_simp
      simp only [Act.put, List.setIfInBounds_toArray, List.set_cons_succ, List.set_cons_zero]
      refine wpAnyH_take (i := 1) (v := .int .i64 (r : Int)) rfl (by kernel_rfl) (by kernel_rfl) (by kernel_rfl) (fun _ _ _ h => h) (Or.inl ⟨by rfl, fun V hV => ?_⟩) hS0 ?_
      · obtain ⟨v1, v2, v3⟩ := hV
        go_simp
      simp only [Act.put, List.setIfInBounds_toArray, List.set_cons_succ, List.set_cons_zero]
      refine wpAnyH_take (i := 6) (v := .agg #[.int .i64 (r : Int), .int .i64 (rk P (-1) p x)]) rfl (by kernel_rfl) (by kernel_rfl) (by kernel_rfl) (fun _ _ _ h => h) (Or.inl ⟨by rfl, fun V hV => ?_⟩) hS0 ?_
      · obtain ⟨v1, v2, v3⟩ := hV
        go_simp
      simp only [Act.put, List.setIfInBounds_toArray, List.set_cons_succ, List.set_cons_zero]
      have hWA : Below W.heap.size W (W.alloc (.cells #[.int .i64 (r : Int), .int .i64 (rk P (-1) p x)] 71)).drew := ((Below.refl _ _).alloc (Nat.le_refl _) _).drew
      have hFA := hF.next hWA
      have eA0 := hFA.ebx.cell
      have hA0 : (W.alloc (.cells #[.int .i64 (r : Int), .int .i64 (rk P (-1) p x)] 71)).drew.cell? ⟨W.heap.size, 0, none⟩ = some (.int .i64 (r : Int)) := by simp [go_sem]
      have hA1 : (W.alloc (.cells #[.int .i64 (r : Int), .int .i64 (rk P (-1) p x)] 71)).drew.cell? ⟨W.heap.size, 1, none⟩ = some (.int .i64 (rk P (-1) p x)) := by simp [go_sem]
      have hAb : w.heap.size + 1 ≤ (W.alloc (.cells #[.int .i64 (r : Int), .int .i64 (rk P (-1) p x)] 71)).drew.heap.size := by have := hFA.bel.size; simpa using this
      have hFn := hF.ne
      have hS1 : (fun V : World => V.cell? ⟨wr.heap.size, 0, none⟩ = some (.int .i64 (r : Int)) ∧ V.cell? ⟨kb, 0, none⟩ = some (.slice (some ⟨rb, 0, none⟩) p capR) ∧ V.cell? ⟨rb, x, none⟩ = some (.int .i64 (rk P (-1) p x))) (W.alloc (.cells #[.int .i64 (r : Int), .int .i64 (rk P (-1) p x)] 71)).drew := ⟨keep_cell hWA (Nat.le_refl _) e1, keep_cell hWA (Nat.le_refl _) e2, keep_cell hWA (Nat.le_refl _) e5⟩
      refine wpAnyH_ready (rs := [0, 7]) (by kernel_rfl) (by simp) (AllReadyH.cons rfl (fun K hK => ?first) (AllReadyH.cons rfl (fun K hK => ?second) AllReadyH.nil))
      case first =>
        go_simp
        refine hK.out _ _ hS0 (fun _ => ?_)
        clear hK K
        refine wpAnyH_ready (rs := [7]) (by kernel_rfl) (by simp) (AllReadyH.cons rfl (fun K hK => ?_) AllReadyH.nil)
        go_simp
        refine hK.out _ _ hS1 (fun _ => ?_)
        clear hK K
        refine wpAnyH_ready (rs := [8]) (by kernel_rfl) (by simp) (AllReadyH.cons rfl (fun K hK => ?_) AllReadyH.nil)
        refine step_append_edge rfl (.tmp 32) (.tmp 39) rfl (w.heap.size + 1) g' c' l1 rfl hFA.own W.heap.size 1 (r : Int) (rk P (-1) p x) rfl hA0 hA1 hl24 hAb ?_
        intro g2 c2 w7 hown7 hgrow7 hat7
        have q1 : w7.cell? ⟨w.heap.size + 1 + 1, 0, none⟩ = some (.slice (some ⟨g', 0, none⟩) l1.length c') := hgrow7.cell eA0 (by simp; omega)
        have q2 : w7.frozen? ⟨w.heap.size + 1 + 1, 0, none⟩ = false := (hFA.ebx.kept hgrow7 (by simp; omega)).frozen
        have hS7 : (fun V : World => V.cell? ⟨wr.heap.size, 0, none⟩ = some (.int .i64 (r : Int)) ∧ V.cell? ⟨kb, 0, none⟩ = some (.slice (some ⟨rb, 0, none⟩) p capR) ∧ V.cell? ⟨rb, x, none⟩ = some (.int .i64 (rk P (-1) p x))) w7 := ⟨hgrow7.cell hS1.1 (by simp; omega), hgrow7.cell hS1.2.1 (by simp; omega), hgrow7.cell hS1.2.2 (by simp; omega)⟩
        have hS8 : (fun V : World => V.cell? ⟨wr.heap.size, 0, none⟩ = some (.int .i64 (r : Int)) ∧ V.cell? ⟨kb, 0, none⟩ = some (.slice (some ⟨rb, 0, none⟩) p capR) ∧ V.cell? ⟨rb, x, none⟩ = some (.int .i64 (rk P (-1) p x))) (w7.setCell ⟨w.heap.size + 1 + 1, 0, none⟩ (.slice (some ⟨g2, 0, none⟩) (l1.length + 1) c2)) := by
          have hs := gr_setCell w7 (w.heap.size + 1 + 1) 0 (.slice (some ⟨g2, 0, none⟩) (l1.length + 1) c2)
          exact ⟨hs.cell hS7.1 (by simp; omega), hs.cell hS7.2.1 (by simp; omega), hs.cell hS7.2.2 (by simp; omega)⟩
        have hF8 := hFA.longer hgrow7 hown7 hat7
        rw [List.length_append] at hF8
        refine hK.out _ _ hS7 (fun _ => ?_)
        clear hK K
        simp only [Act.put, List.setIfInBounds_toArray, List.set_cons_succ, List.set_cons_zero]
        refine wpAnyH_ready (rs := [9]) (by kernel_rfl) (by simp) (AllReadyH.cons rfl (fun K hK => ?_) AllReadyH.nil)
        go_simp
        refine hK.out _ _ hS8 (fun _ => ?_)
        clear hK K
        refine wpAnyH_done (by kernel_rfl) ?_ _
        have hPl := bP'.lt
        have hg2 : g2 = g' ∨ g2 = W.heap.size + 1 := by simpa using hat7
        have hst := gr_setCell w7 (w.heap.size + 1 + 1) 0 (.slice (some ⟨g2, 0, none⟩) (l1.length + 1) c2)
        have hEc := hFA.own.has
        have hMA := hMk'.grown (below_grownN (row := none) hWA) (fun D _ e => by cases e)
        refine ⟨rfl, ((keeps_below hWA).trans (keeps_cells hgrow7 (by obtain ⟨cc, h2, _⟩ := hEc; exact ⟨_, _, _, h2⟩))).trans (keeps_cells hst ⟨_, _, _, hFA.ebx.kept hgrow7 (by simp; omega)⟩), ⟨g2, c2, by rw [HSN.out]; exact hF8, by omega, by omega, by omega⟩, ?_, ?_, ?_, ?_⟩
        · exact ((bR'.kept (below_grownN (row := none) hWA) (by simp)).kept hgrow7 (by simp; omega)).kept hst (by simp; omega)
        · exact ((bM'.kept (below_grownN (row := none) hWA) (by simp)).kept hgrow7 (by simp; omega)).kept hst (by simp; omega)
        · exact ((bP'.kept (below_grownN (row := none) hWA) (by simp)).kept hgrow7 (by simp; omega)).kept hst (by simp; omega)
        · refine (hMA.grown hgrow7 (fun D hD e => ?_)).grown hst (fun D hD e => ?_)
          · simp at e
            subst e
            obtain ⟨cc, h2, _⟩ := hEc
            have := hMA.2 _ hD
            rw [h2] at this
            cases this
          · simp at e
            have := hMk'.2 D hD
            rw [← e] at this
            have h2 := hF.ebx
            unfold Boxed at h2
            rw [h2] at this
            cases this
      case second =>
        go_simp
        refine hK.out _ _ hS1 (fun _ => ?_)
        clear hK K
        refine wpAnyH_ready (rs := [0]) (by kernel_rfl) (by simp) (AllReadyH.cons rfl (fun K hK => ?_) AllReadyH.nil)
        go_simp
        refine hK.out _ _ hS1 (fun _ => ?_)
        clear hK K
        refine wpAnyH_ready (rs := [8]) (by kernel_rfl) (by simp) (AllReadyH.cons rfl (fun K hK => ?_) AllReadyH.nil)
        refine step_append_edge rfl (.tmp 32) (.tmp 39) rfl (w.heap.size + 1) g' c' l1 rfl hFA.own W.heap.size 1 (r : Int) (rk P (-1) p x) rfl hA0 hA1 hl24 hAb ?_
        intro g2 c2 w7 hown7 hgrow7 hat7
        have q1 : w7.cell? ⟨w.heap.size + 1 + 1, 0, none⟩ = some (.slice (some ⟨g', 0, none⟩) l1.length c') := hgrow7.cell eA0 (by simp; omega)
        have q2 : w7.frozen? ⟨w.heap.size + 1 + 1, 0, none⟩ = false := (hFA.ebx.kept hgrow7 (by simp; omega)).frozen
        have hS7 : (fun V : World => V.cell? ⟨wr.heap.size, 0, none⟩ = some (.int .i64 (r : Int)) ∧ V.cell? ⟨kb, 0, none⟩ = some (.slice (some ⟨rb, 0, none⟩) p capR) ∧ V.cell? ⟨rb, x, none⟩ = some (.int .i64 (rk P (-1) p x))) w7 := ⟨hgrow7.cell hS1.1 (by simp; omega), hgrow7.cell hS1.2.1 (by simp; omega), hgrow7.cell hS1.2.2 (by simp; omega)⟩
        have hS8 : (fun V : World => V.cell? ⟨wr.heap.size, 0, none⟩ = some (.int .i64 (r : Int)) ∧ V.cell? ⟨kb, 0, none⟩ = some (.slice (some ⟨rb, 0, none⟩) p capR) ∧ V.cell? ⟨rb, x, none⟩ = some (.int .i64 (rk P (-1) p x))) (w7.setCell ⟨w.heap.size + 1 + 1, 0, none⟩ (.slice (some ⟨g2, 0, none⟩) (l1.length + 1) c2)) := by
          have hs := gr_setCell w7 (w.heap.size + 1 + 1) 0 (.slice (some ⟨g2, 0, none⟩) (l1.length + 1) c2)
          exact ⟨hs.cell hS7.1 (by simp; omega), hs.cell hS7.2.1 (by simp; omega), hs.cell hS7.2.2 (by simp; omega)⟩
        have hF8 := hFA.longer hgrow7 hown7 hat7
        rw [List.length_append] at hF8
        refine hK.out _ _ hS7 (fun _ => ?_)
        clear hK K
        simp only [Act.put, List.setIfInBounds_toArray, List.set_cons_succ, List.set_cons_zero]
        refine wpAnyH_ready (rs := [9]) (by kernel_rfl) (by simp) (AllReadyH.cons rfl (fun K hK => ?_) AllReadyH.nil)
        go_simp
        refine hK.out _ _ hS8 (fun _ => ?_)
        clear hK K
        refine wpAnyH_done (by kernel_rfl) ?_ _
        have hPl := bP'.lt
        have hg2 : g2 = g' ∨ g2 = W.heap.size + 1 := by simpa using hat7
        have hst := gr_setCell w7 (w.heap.size + 1 + 1) 0 (.slice (some ⟨g2, 0, none⟩) (l1.length + 1) c2)
        have hEc := hFA.own.has
        have hMA := hMk'.grown (below_grownN (row := none) hWA) (fun D _ e => by cases e)
        refine ⟨rfl, ((keeps_below hWA).trans (keeps_cells hgrow7 (by obtain ⟨cc, h2, _⟩ := hEc; exact ⟨_, _, _, h2⟩))).trans (keeps_cells hst ⟨_, _, _, hFA.ebx.kept hgrow7 (by simp; omega)⟩), ⟨g2, c2, by rw [HSN.out]; exact hF8, by omega, by omega, by omega⟩, ?_, ?_, ?_, ?_⟩
        · exact ((bR'.kept (below_grownN (row := none) hWA) (by simp)).kept hgrow7 (by simp; omega)).kept hst (by simp; omega)
        · exact ((bM'.kept (below_grownN (row := none) hWA) (by simp)).kept hgrow7 (by simp; omega)).kept hst (by simp; omega)
        · exact ((bP'.kept (below_grownN (row := none) hWA) (by simp)).kept hgrow7 (by simp; omega)).kept hst (by simp; omega)
        · refine (hMA.grown hgrow7 (fun D hD e => ?_)).grown hst (fun D hD e => ?_)
          · simp at e
            subst e
            obtain ⟨cc, h2, _⟩ := hEc
            have := hMA.2 _ hD
            rw [h2] at this
            cases this
          · simp at e
            have := hMk'.2 D hD
            rw [← e] at this
            have h2 := hF.ebx
            unfold Boxed at h2
            rw [h2] at this
            cases this
    case done =>
      rintro D xs W hD rfl ⟨⟨g', c', hF, n1, n2, n3⟩, bR', bM', bP', hMk'⟩ hK
      have hrw : allU B P p (r + 1) = allU B P p r ++ (vis (fun _ => sqO B P r a) p).map (fun q => ((r : Int), rk P (-1) p q)) := by
        show allU B P p r ++ rowU B P p r p = _
        unfold rowU visF
        rw [show (P r).toNat = a by omega]
      rw [← hrw] at hF
      gi_wp2_with fail
      refine ⟨trivial, ?_⟩
      refine (callsIn_wide.2 (takeAway_any bm p a (sqO B P r) gone hp hap (sqO_fair hfair P r) (sqO_within hwi P r) W hF.mesh)).mono ?_
      rintro e w8 ⟨rfl, hM8, hg8⟩
      have hF8 := hF.taken hg8 hM8
      have hsq : sqO B P (r + 1) = tk (sqO B P r) a := by
        show tk (sqO B P r) (P r).toNat = _
        rw [show (P r).toNat = a by omega]
      rw [← hsq] at hF8
      have hmne : ∀ E, W.heap[E]? = some (.deferred (some [])) → E ≠ bm := fun E hE e => by
        obtain ⟨cc, h2, _⟩ := hF.mesh
        rw [e, h2] at hE
        cases hE
      have hMk8 : Marked w8 (D :: Ds) := by
        refine Marked.grown (W := W) ⟨List.nodup_cons.2 ⟨fun hD' => ?_, hMk'.1⟩, fun E hE => ?_⟩ hg8 (fun E hE e => ?_)
        · have := hDl D hD'
          omega
        · simp at hE
          rcases hE with rfl | hE
          · exact hK
          · exact hMk'.2 E hE
        · simp at e hE
          rcases hE with rfl | hE
          · exact hmne _ hK e.symm
          · exact hmne _ (hMk'.2 E hE) e.symm
      gi_wp2
      refine ⟨⟨r + 1, g', c', _, D :: Ds, _, _, _, _, _, _, _, _, _, _, _, _, _, ⟨by omega, hMk8, fun E hE => ?_, hF8⟩, by rw [show ((r + 1 : Nat) : Int) = (r : Int) + 1 by omega]; rfl⟩, ?_⟩
      · simp at hE
        rcases hE with rfl | hE
        · omega
        · exact hDg E hE
      · simp [intOf]; omega

end Go.Proofs.Ytdgnlpafmkhdjah

/-
  A range over a function whose loop variable lies in a box that each round makes anew.
-/
set_option linter.unusedVariables false
set_option linter.unusedSimpArgs false
namespace Go.Proofs.Ytdgnlpafmkhdjah
open Go Go.RowKit

section
variable {F : Fence} {n : Nat} {P : Program}
theorem range_boxed {α : Type} {g : Operand} {ps : Array Tmp} {assign body : Code} {Q : Exit → Act → World → Prop} {a : Act} {w : World}
    (hro : F.round = none) (h1 : 1 ≤ n) {gf : Nat} {lb : Array Value} (hg : a.eval g = .func (.func gf) #[] lb) (hFg : F.fn gf) (eg : ∀ args w, (callFunc gf args).run P w = .ok (.enter gf args) w)
    {encs : α → Array Value} {Kp : World → World → Prop} {S Sp : List α → Prop} {N : Nat} {w0 : World} (hseq : SeqStopsK F (n - 1) P gf lb encs Kp S Sp N w0)
    (hKt : ∀ {A B C : World}, Kp A B → Kp B C → Kp A C) (hKb : ∀ (W : World) (l : Nat) (o o' : Obj), w.heap.size ≤ l → W.heap[l]? = some o → o.isCells = false → o.isWalk = false → Kp W (W.putObj l o')) (hKa : ∀ (W : World) (o : Obj), Kp W (W.alloc o)) (hb0 : Below w0.heap.size w0 w) (hps : ∀ x, (encs x).size = ps.size)
    (I : List α → World → Prop) (Ix : Code → List α → World → Prop) (hI : OwnFrom w.heap.size I) (hIx : ∀ c, OwnFrom w.heap.size (Ix c)) (hIs : ∀ pre W, I pre W → w.heap.size ≤ W.heap.size) (h0 : I [] w) (d : Nat) (cs : α → Array Value) (T : TypeId)
    (hassign : ∀ (l : Nat) (x : α) (W : World) (K : Act → World → Prop), K { tmps := ((ps.zip (encs x)).foldl (fun t (p, v) => t.setIfInBounds p v) a.tmps).setIfInBounds d (.pointer (some ⟨W.heap.size, 0, none⟩)), defers := [] } (W.alloc (.cells (cs x) T)) →
      assign.wpIn (F.inRound l) (n - 1 - 1) P (Exit.then K (fun _ _ _ => False)) { tmps := (ps.zip (encs x)).foldl (fun t (p, v) => t.setIfInBounds p v) a.tmps, defers := [] } W)
    (hbody : ∀ (l : Nat) (pre : List α) (x : α) (bT : Nat) (W : World), I pre W → w.heap.size ≤ bT → W.heap[bT]? = some (.cells (cs x) T) → body.wpIn (F.inRound l) (n - 1 - 1) P (ownPostG w.heap.size Kp I Ix (pre ++ [x]) W) { tmps := ((ps.zip (encs x)).foldl (fun t (p, v) => t.setIfInBounds p v) a.tmps).setIfInBounds d (.pointer (some ⟨bT, 0, none⟩)), defers := [] } W)
    (hdone : ∀ (D : Nat) (xs : List α) (W : World), w.heap.size ≤ D → S xs → I xs W → W.heap[D]? = some (.deferred (some [])) → Q .normal { a with defers := { target := .collected D, args := #[] } :: a.defers } W)
    (hstop : ∀ (D : Nat) (c : Code) (pre : List α) (W : World), w.heap.size ≤ D → Sp pre → Ix c pre W → W.heap[D]? = some (.deferred (some [])) → c.wpIn F n P Q { a with defers := { target := .collected D, args := #[] } :: a.defers } W) :
    (Code.rangeFunc g ps assign body).wpIn F n P Q a w := by
  refine wpIn_rangeFunc_ownH hro h1 hg hFg eg hseq (fun h k => hKt h k) hKb hb0 hps I Ix hI hIx h0
    (fun x a' W => ∃ bT, a' = { tmps := ((ps.zip (encs x)).foldl (fun t (p, v) => t.setIfInBounds p v) a.tmps).setIfInBounds d (.pointer (some ⟨bT, 0, none⟩)), defers := [] } ∧ w.heap.size ≤ bT ∧ W.heap[bT]? = some (.cells (cs x) T)) ?_ ?_ ?_ hdone hstop
  · rintro x a' _ W W' row ⟨bT, rfl, hb, hc⟩ hg hr
    refine ⟨bT, rfl, hb, ?_⟩
    rw [hg.block bT (Array.getElem?_eq_some_iff.1 hc).1 (fun e => ?_)]
    · exact hc
    · obtain ⟨_, o, ho, hn⟩ := hr bT e.symm
      rw [hc] at ho
      cases ho
      cases hn
  · intro l pre x W K hi hK
    exact hassign l x W K (hK _ _ ((KeepsOthers.alloc W _).from _) (hKa W _) (hI.alloc _ hi) ⟨_, rfl, hIs _ _ hi, World.alloc_heap_new W _⟩)
  · rintro l pre x a' W _ _ hi ⟨bT, rfl, hb, hc⟩ _
    exact hbody l pre x bT W hi hb hc
end

end Go.Proofs.Ytdgnlpafmkhdjah

/-
  MetricOk, the program's, at every hierarchy and every metric.
-/
set_option linter.unusedVariables false
set_option linter.unusedSimpArgs false
namespace Go.Proofs.Ytdgnlpafmkhdjah
open Go.RowKit Go.Shelf Go.Deep Go.Joins
attribute [local go_sem] Oper.semAt_some

set_option maxRecDepth 100000 in
set_option maxHeartbeats 4000000 in
theorem implMetricOk_any (po : Option Addr) (k pcap : Nat) (P : Nat → Int) (eo : Option Addr) (m ecap : Nat) (L H : Nat → Int) (uo : Option Addr) (u ucap : Nat) (U : Nat → Int) (vo : Option Addr) (v vcap : Nat) (V : Nat → Int) (hk : k ≤ 1048576) (hm : m ≤ 1048576) (hmc : m ≤ ecap) (hu : u ≤ 1048576) (hv : v ≤ 1048576) (w : World) (he : ERow w eo m L H) (hU : IRow w uo u U) (hV : IRow w vo v V) :
    Calls Try.prog 14 #[.agg #[.slice po k pcap, .slice eo m ecap], .agg #[.slice uo u ucap, .slice vo v vcap]] w fun e w' => BAns e (MOk k m L H u U v V) ∧ Below w.heap.size w w' := by
  refine (callsIn_wide (n := 6)).1 ?_
  refine callsIn_of_wp_marks Try.func14 rfl trivial ?_ rfl
  simp only [Try.ntmps14, List.size_toArray, List.length_cons, List.length_nil, Nat.reduceAdd, Nat.reduceSub, Array.replicate_succ, Array.replicate_zero, List.push_toArray, List.append_toArray, List.nil_append, List.cons_append]
  gi_wp2
  refine ⟨trivial, ?_⟩
  have hB0 : Below w.heap.size w (((w.alloc (.cells #[.slice po k pcap, .slice eo m ecap] 33)).alloc (.cells #[.slice uo u ucap, .slice vo v vcap] 35)).alloc (.cells #[.bool false] 4)) := (((Below.refl _ w).alloc (Nat.le_refl _) _).alloc (by simp) _).alloc (by simp; omega) _
  have q0 : (((w.alloc (.cells #[.slice po k pcap, .slice eo m ecap] 33)).alloc (.cells #[.slice uo u ucap, .slice vo v vcap] 35)).alloc (.cells #[.bool false] 4)).cell? ⟨w.heap.size, 0, none⟩ = some (.slice po k pcap) := by simp [go_sem]
  have q1 : (((w.alloc (.cells #[.slice po k pcap, .slice eo m ecap] 33)).alloc (.cells #[.slice uo u ucap, .slice vo v vcap] 35)).alloc (.cells #[.bool false] 4)).cell? ⟨w.heap.size, 1, none⟩ = some (.slice eo m ecap) := by simp [go_sem]
  have q2 : (((w.alloc (.cells #[.slice po k pcap, .slice eo m ecap] 33)).alloc (.cells #[.slice uo u ucap, .slice vo v vcap] 35)).alloc (.cells #[.bool false] 4)).cell? ⟨w.heap.size + 1, 0, none⟩ = some (.slice uo u ucap) := by simp [go_sem]
  have q3 : (((w.alloc (.cells #[.slice po k pcap, .slice eo m ecap] 33)).alloc (.cells #[.slice uo u ucap, .slice vo v vcap] 35)).alloc (.cells #[.bool false] 4)).cell? ⟨w.heap.size + 1, 1, none⟩ = some (.slice vo v vcap) := by simp [go_sem]
  have bR : Boxed (((w.alloc (.cells #[.slice po k pcap, .slice eo m ecap] 33)).alloc (.cells #[.slice uo u ucap, .slice vo v vcap] 35)).alloc (.cells #[.bool false] 4)) (w.heap.size + 1 + 1) 4 (.bool false) := by
    have := Boxed.new ((w.alloc (.cells #[.slice po k pcap, .slice eo m ecap] 33)).alloc (.cells #[.slice uo u ucap, .slice vo v vcap] 35)) 4 (.bool false)
    simpa only [World.size_alloc] using this
  have hsz : (((w.alloc (.cells #[.slice po k pcap, .slice eo m ecap] 33)).alloc (.cells #[.slice uo u ucap, .slice vo v vcap] 35)).alloc (.cells #[.bool false] 4)).heap.size = w.heap.size + 3 := by simp
  generalize ((w.alloc (.cells #[.slice po k pcap, .slice eo m ecap] 33)).alloc (.cells #[.slice uo u ucap, .slice vo v vcap] 35)).alloc (.cells #[.bool false] 4) = W0 at hB0 q0 q1 q2 q3 bR hsz ⊢
  refine (callsIn_wide.2 (implChordal_any (k : Int) eo m ecap L H hm hmc _ (he.below hB0 (Nat.le_refl _)))).mono ?_
  rintro e w1 ⟨⟨b, rfl, hb⟩, hb1⟩
  replace q0 := keep_cell hb1 (Nat.le_refl _) q0
  replace q1 := keep_cell hb1 (Nat.le_refl _) q1
  replace q2 := keep_cell hb1 (Nat.le_refl _) q2
  replace q3 := keep_cell hb1 (Nat.le_refl _) q3
  replace bR : Boxed w1 (w.heap.size + 1 + 1) 4 (.bool false) := (hb1.block _ bR.lt).trans bR
  have hB1 := below_next hB0 (Nat.le_refl _) hb1
  have hs1 := hb1.size
  clear hb1 hB0
  have c4 := bR.cell
  have f4 := bR.frozen
  cases b
  · have HN : Hid (¬ MOk k m L H u U v V) := fun x => by have := hb.2 x.1; cases this
    clear hb
    gi_wp2_with fail
    refine ⟨trivial, ?_⟩
    gi_wp2_with fail
    refine ⟨trivial, ?_⟩
    gi_wp2_with fail
    refine ⟨.bool false, by simp [results, Try.results14, go_sem, c4], bans_no HN.out, hB1.setCell (by simp; omega) _⟩
  have HC : Hid (Chd (k : Int) m L H) := hb.1 rfl
  clear hb
  gi_wp2_with fail
  refine ⟨trivial, ?_⟩
  refine (callsIn_wide.2 (weightsOk_any uo u ucap U m hu hm _ (hU.below hB1 (Nat.le_refl _)))).mono ?_
  rintro e w2 ⟨⟨b, rfl, hb⟩, hw2⟩
  have hw2' := hw2.symm
  subst hw2'
  clear hw2
  cases b
  · have HN : Hid (¬ MOk k m L H u U v V) := fun x => by have := hb.2 ⟨x.2.1, x.2.2.2.1⟩; cases this
    clear hb
    gi_wp2_with fail
    refine ⟨trivial, ?_⟩
    gi_wp2_with fail
    refine ⟨.bool false, by simp [results, Try.results14, go_sem, c4], bans_no HN.out, hB1.setCell (by simp; omega) _⟩
  have HU : Hid (u = m ∧ InF m U) := hb.1 rfl
  clear hb
  gi_wp2_with fail
  refine ⟨trivial, ?_⟩
  refine (callsIn_wide.2 (weightsOk_any vo v vcap V m hv hm _ (hV.below hB1 (Nat.le_refl _)))).mono ?_
  rintro e w2 ⟨⟨b, rfl, hb⟩, hw2⟩
  have hw2' := hw2.symm
  subst hw2'
  clear hw2
  cases b
  · have HN : Hid (¬ MOk k m L H u U v V) := fun x => by have := hb.2 ⟨x.2.2.1, x.2.2.2.2.1⟩; cases this
    clear hb
    gi_wp2_with fail
    refine ⟨.bool false, by simp [results, Try.results14, go_sem, c4], bans_no HN.out, hB1.setCell (by simp; omega) _⟩
  have HV : Hid (v = m ∧ InF m V) := hb.1 rfl
  clear hb
  gi_wp2_with fail
  refine ⟨trivial, ?_⟩
  refine (callsIn_wide.2 (triangles_any eo m ecap _)).mono ?_
  rintro e w2 ⟨rfl, rfl⟩
  have hal := (Below.refl w1.heap.size w1).alloc (Nat.le_refl _) (.cells #[.slice eo m ecap] 31)
  have hB2 := below_next hB1 (Nat.le_refl _) hal
  have hR2 : TRd w1.heap.size eo m ecap L H (w1.alloc (.cells #[.slice eo m ecap] 31)) := ⟨by simp [go_sem], he.below hB2 (Nat.le_refl _)⟩
  replace q2 := keep_cell hal (Nat.le_refl _) q2
  replace q3 := keep_cell hal (Nat.le_refl _) q3
  replace bR := bR.alloc (.cells #[.slice eo m ecap] 31)
  have hs2 : (w1.alloc (.cells #[.slice eo m ecap] 31)).heap.size = w1.heap.size + 1 := by simp
  generalize w1.alloc (.cells #[.slice eo m ecap] 31) = W2 at hB2 hR2 q2 q3 bR hs2 ⊢
  clear hal q0 q1 c4 f4 hB1
  obtain ⟨hum, hUF⟩ := HU.out
  obtain ⟨hvm, hVF⟩ := HV.out
  subst hum
  subst hvm
  have HED : Hid (edB (k : Int) L H v = true) := by
    have := HC.out.1
    simp [edgesB] at this
    exact this.2
  have hk24 : (k : Int) ≤ 24 := by
    have := HC.out.1
    simp [edgesB, inB] at this
    omega
  gi_wp2_with fail
  refine range_boxed rfl (by omega) (gf := 86) (lb := #[.pointer (some ⟨w1.heap.size, 0, none⟩)]) rfl trivial (enters_of Try.func86 (by kernel_rfl) rfl)
    (tri_stops 5 (by omega) w1.heap.size eo v ecap L H (k : Int) hm hk24 HED.out HC.out.2 W2 hR2) (fun h k => ⟨h.1.trans k.1, fun r => k.2 (h.2 r)⟩) (fun W l o o' hl ho hc hw => ⟨KeepsOwn.putObj ho hc hw, fun h => h.putObj ho hc⟩)
    (fun W o => ⟨⟨by simp, fun k x _ hk _ => (Below.heap_alloc W o k (Array.getElem?_eq_some_iff.1 hk).1).trans hk⟩, fun h => h.grown (World.grownBy_alloc W o none) (fun r e => by cases e)⟩) (Below.refl _ _) (fun _ => rfl)
    (fun pre W => (Below w.heap.size w W ∧ W2.heap.size ≤ W.heap.size) ∧ (W.cell? ⟨w.heap.size + 1, 0, none⟩ = some (.slice uo v ucap) ∧ W.cell? ⟨w.heap.size + 1, 1, none⟩ = some (.slice vo v vcap)) ∧ Boxed W (w.heap.size + 1 + 1) 4 (.bool false) ∧ ∀ x ∈ pre, okT U V x.1)
    (fun c pre W => (Below w.heap.size w W ∧ W2.heap.size ≤ W.heap.size) ∧ (c = .ret ∧ ¬ MOk k v L H v U v V) ∧ Boxed W (w.heap.size + 1 + 1) 4 (.bool false)) ?ownI ?ownX (fun pre W h => h.1.2) ⟨⟨hB2, Nat.le_refl _⟩, ⟨q2, q3⟩, bR, fun x hx => by simp at hx⟩ 5
    (fun x => #[.int .i64 (x.1.1 : Int), .int .i64 (x.1.2.1 : Int), .int .i64 (x.1.2.2 : Int)]) 81 ?assign ?body ?done ?stop
  case ownI =>
    rintro pre A B row ⟨⟨h1, h2⟩, ⟨h3, h4⟩, h5, h6⟩ hg hr
    have hr' := fun r e => (hr r e).2
    exact ⟨⟨h1.trans ⟨hg.os, hg.tape, hg.output, hg.size, fun k hk => hg.block k (by have := h1.size; omega) (fun e => by have := (hr k e.symm).1; omega)⟩, Nat.le_trans h2 hg.size⟩, ⟨cell_kept h3 hg hr', cell_kept h4 hg hr'⟩, h5.kept hg (fun e => by have := (hr _ e.symm).1; omega), h6⟩
  case ownX =>
    rintro c pre A B row ⟨⟨h1, h2⟩, h3, h5⟩ hg hr
    exact ⟨⟨h1.trans ⟨hg.os, hg.tape, hg.output, hg.size, fun k hk => hg.block k (by have := h1.size; omega) (fun e => by have := (hr k e.symm).1; omega)⟩, Nat.le_trans h2 hg.size⟩, h3, h5.kept hg (fun e => by have := (hr _ e.symm).1; omega)⟩
  case assign =>
    intro l x W K hK
    obtain ⟨⟨i, kk, e⟩, hx⟩ := x
    simp only [trv] at hK ⊢
    gi_wp2
    simpa [Exit.then] using hK
  case body =>
    rintro l pre ⟨⟨i, kk, e⟩, hx⟩ bT W ⟨⟨hB, hs⟩, ⟨c2, c3⟩, bR3, hpre⟩ hbT hcs
    have HP : Hid (∀ x ∈ pre, okT U V x.1) := hpre
    clear hpre
    have HX : Hid (TOk v L H (i, kk, e)) := hx
    obtain ⟨hiv, hkv, hev, _⟩ := hx
    simp only at hiv hkv hev hcs
    have t0 : W.cell? ⟨bT, 0, none⟩ = some (.int .i64 (i : Int)) := by simp [World.cell?, hcs]
    have t1 : W.cell? ⟨bT, 1, none⟩ = some (.int .i64 (kk : Int)) := by simp [World.cell?, hcs]
    have t2 : W.cell? ⟨bT, 2, none⟩ = some (.int .i64 (e : Int)) := by simp [World.cell?, hcs]
    have rU : IRow W.drew uo v U := (hU.below hB (Nat.le_refl _)).below (Below.refl W.heap.size W).drew (Nat.le_refl _)
    have rV : IRow W.drew vo v V := (hV.below hB (Nat.le_refl _)).below (Below.refl W.heap.size W).drew (Nat.le_refl _)
    obtain ⟨bu, ou, hao, u0⟩ := rU e hev
    obtain ⟨bv, ov, hao', v0⟩ := rV e hev
    subst hao
    subst hao'
    have he1 : (0 : Int) ≤ (e : Int) := by omega
    have he2 : (e : Int) < (v : Int) := by omega
    have hS0 : (fun X : World => X.cell? ⟨w.heap.size + 1, 0, none⟩ = some (.slice (some ⟨bu, ou, none⟩) v ucap) ∧ X.cell? ⟨w.heap.size + 1, 1, none⟩ = some (.slice (some ⟨bv, ov, none⟩) v vcap) ∧ X.cell? ⟨bT, 0, none⟩ = some (.int .i64 (i : Int)) ∧ X.cell? ⟨bT, 1, none⟩ = some (.int .i64 (kk : Int)) ∧ X.cell? ⟨bT, 2, none⟩ = some (.int .i64 (e : Int)) ∧ X.cell? ⟨bu, ou + e, none⟩ = some (.int .i64 (U e)) ∧ X.cell? ⟨bv, ov + e, none⟩ = some (.int .i64 (V e))) W.drew := ⟨c2, c3, t0, t1, t2, u0, v0⟩
    have hupk : ∀ V' : World, Below W.drew.heap.size W.drew V' → (fun X : World => X.cell? ⟨w.heap.size + 1, 0, none⟩ = some (.slice (some ⟨bu, ou, none⟩) v ucap) ∧ X.cell? ⟨w.heap.size + 1, 1, none⟩ = some (.slice (some ⟨bv, ov, none⟩) v vcap) ∧ X.cell? ⟨bT, 0, none⟩ = some (.int .i64 (i : Int)) ∧ X.cell? ⟨bT, 1, none⟩ = some (.int .i64 (kk : Int)) ∧ X.cell? ⟨bT, 2, none⟩ = some (.int .i64 (e : Int)) ∧ X.cell? ⟨bu, ou + e, none⟩ = some (.int .i64 (U e)) ∧ X.cell? ⟨bv, ov + e, none⟩ = some (.int .i64 (V e))) V' := fun V' hb => ⟨keep_cell hb (Nat.le_refl _) hS0.1, keep_cell hb (Nat.le_refl _) hS0.2.1, keep_cell hb (Nat.le_refl _) hS0.2.2.1, keep_cell hb (Nat.le_refl _) hS0.2.2.2.1, keep_cell hb (Nat.le_refl _) hS0.2.2.2.2.1, keep_cell hb (Nat.le_refl _) hS0.2.2.2.2.2.1, keep_cell hb (Nat.le_refl _) hS0.2.2.2.2.2.2⟩
    by_cases ha : upT U V (i, kk, e) < U e
    · have hda : decide (upT U V (i, kk, e) < U e) = true := by simpa using ha
      gi_wp2_with fail
      refine region_round (fun X : World => X.cell? ⟨w.heap.size + 1, 0, none⟩ = some (.slice (some ⟨bu, ou, none⟩) v ucap) ∧ X.cell? ⟨w.heap.size + 1, 1, none⟩ = some (.slice (some ⟨bv, ov, none⟩) v vcap) ∧ X.cell? ⟨bT, 0, none⟩ = some (.int .i64 (i : Int)) ∧ X.cell? ⟨bT, 1, none⟩ = some (.int .i64 (kk : Int)) ∧ X.cell? ⟨bT, 2, none⟩ = some (.int .i64 (e : Int)) ∧ X.cell? ⟨bu, ou + e, none⟩ = some (.int .i64 (U e)) ∧ X.cell? ⟨bv, ov + e, none⟩ = some (.int .i64 (V e))) (by kernel_rfl) (by kernel_rfl) (fun ⟨_, _, h⟩ => h) ?_
      refine takeH 0 (some 35) (.pointer (some ⟨w.heap.size + 1, 0, none⟩)) rfl rfl (by kernel_rfl) (by kernel_rfl) (by kernel_rfl) (fun _ _ _ h => h) (by rfl) hS0 (fun V hV => by obtain ⟨v1, v2, v3, v4, v5, v6, v7⟩ := hV; go_simp) ?_
      simp only [Act.put, List.setIfInBounds_toArray, List.set_cons_zero, List.set_cons_succ]
      refine takeH 1 (some 36) (.slice (some ⟨bu, ou, none⟩) v ucap) rfl rfl (by kernel_rfl) (by kernel_rfl) (by kernel_rfl) (fun _ _ _ h => h) (by rfl) hS0 (fun V hV => by obtain ⟨v1, v2, v3, v4, v5, v6, v7⟩ := hV; go_simp) ?_
      simp only [Act.put, List.setIfInBounds_toArray, List.set_cons_zero, List.set_cons_succ]
      refine takeH 2 (some 37) (.pointer (some ⟨bT, 2, none⟩)) rfl rfl (by kernel_rfl) (by kernel_rfl) (by kernel_rfl) (fun _ _ _ h => h) (by rfl) hS0 (fun V hV => by obtain ⟨v1, v2, v3, v4, v5, v6, v7⟩ := hV; go_simp) ?_
      simp only [Act.put, List.setIfInBounds_toArray, List.set_cons_zero, List.set_cons_succ]
      refine takeH 3 (some 38) (.int .i64 (e : Int)) rfl rfl (by kernel_rfl) (by kernel_rfl) (by kernel_rfl) (fun _ _ _ h => h) (by rfl) hS0 (fun V hV => by obtain ⟨v1, v2, v3, v4, v5, v6, v7⟩ := hV; go_simp) ?_
      simp only [Act.put, List.setIfInBounds_toArray, List.set_cons_zero, List.set_cons_succ]
      refine takeH 4 (some 39) (.pointer (some ⟨bu, ou + e, none⟩)) rfl rfl (by kernel_rfl) (by kernel_rfl) (by kernel_rfl) (fun _ _ _ h => h) (by rfl) hS0 (fun V hV => by obtain ⟨v1, v2, v3, v4, v5, v6, v7⟩ := hV; go_simp) ?_
      simp only [Act.put, List.setIfInBounds_toArray, List.set_cons_zero, List.set_cons_succ]
      refine takeH 5 (some 40) (.int .i64 (U e)) rfl rfl (by kernel_rfl) (by kernel_rfl) (by kernel_rfl) (fun _ _ _ h => h) (by rfl) hS0 (fun V hV => by obtain ⟨v1, v2, v3, v4, v5, v6, v7⟩ := hV; go_simp) ?_
      simp only [Act.put, List.setIfInBounds_toArray, List.set_cons_zero, List.set_cons_succ]
      refine takeH 6 (some 41) (.agg #[.slice (some ⟨bu, ou, none⟩) v ucap, .slice (some ⟨bv, ov, none⟩) v vcap]) rfl rfl (by kernel_rfl) (by kernel_rfl) (by kernel_rfl) (fun _ _ _ h => h) (by rfl) hS0 (fun V hV => by obtain ⟨v1, v2, v3, v4, v5, v6, v7⟩ := hV; go_simp) ?_
      simp only [Act.put, List.setIfInBounds_toArray, List.set_cons_zero, List.set_cons_succ]
      refine takeH 7 (some 42) (.agg #[.int .i64 (i : Int), .int .i64 (kk : Int), .int .i64 (e : Int)]) rfl rfl (by kernel_rfl) (by kernel_rfl) (by kernel_rfl) (fun _ _ _ h => h) (by rfl) hS0 (fun V hV => by obtain ⟨v1, v2, v3, v4, v5, v6, v7⟩ := hV; go_simp) ?_
      simp only [Act.put, List.setIfInBounds_toArray, List.set_cons_zero, List.set_cons_succ]
      refine step1H 8 _ rfl (by kernel_rfl) (by rfl) ?_
      go_simp
      refine (upBelow_any _ v ucap U _ v vcap V (i, kk, e) hiv hkv hUF hVF hm hm _ rU rV).mono ?_
      rintro e9 w3 ⟨rfl, hb3⟩
      have hS1 := hupk w3 hb3
      have rU3 := rU.below hb3 (Nat.le_refl _)
      have rV3 := rV.below hb3 (Nat.le_refl _)
      refine ⟨hS1, ?_⟩
      refine takeH 9 (some 44) (.bool true) rfl rfl (by kernel_rfl) (by kernel_rfl) (by kernel_rfl) (fun _ _ _ h => h) (by rfl) hS1 (fun V hV => by obtain ⟨v1, v2, v3, v4, v5, v6, v7⟩ := hV; go_simp) ?_
      simp only [Act.put, List.setIfInBounds_toArray, List.set_cons_zero, List.set_cons_succ]
      refine takeH 10 (some 45) (.bool true) rfl rfl (by kernel_rfl) (by kernel_rfl) (by kernel_rfl) (fun _ _ _ h => h) (by rfl) hS1 (fun V hV => by obtain ⟨v1, v2, v3, v4, v5, v6, v7⟩ := hV; go_simp) ?_
      simp only [Act.put, List.setIfInBounds_toArray, List.set_cons_zero, List.set_cons_succ]
      refine skipH 11 (some 46) rfl rfl (by kernel_rfl) (by kernel_rfl) (by kernel_rfl) (fun _ _ _ h => h) (by rfl) hS1 ?_
      simp only [Act.put, List.setIfInBounds_toArray, List.set_cons_zero, List.set_cons_succ]
      refine skipH 12 (some 47) rfl rfl (by kernel_rfl) (by kernel_rfl) (by kernel_rfl) (fun _ _ _ h => h) (by rfl) hS1 ?_
      simp only [Act.put, List.setIfInBounds_toArray, List.set_cons_zero, List.set_cons_succ]
      refine skipH 13 (some 48) rfl rfl (by kernel_rfl) (by kernel_rfl) (by kernel_rfl) (fun _ _ _ h => h) (by rfl) hS1 ?_
      simp only [Act.put, List.setIfInBounds_toArray, List.set_cons_zero, List.set_cons_succ]
      refine skipH 14 (some 49) rfl rfl (by kernel_rfl) (by kernel_rfl) (by kernel_rfl) (fun _ _ _ h => h) (by rfl) hS1 ?_
      simp only [Act.put, List.setIfInBounds_toArray, List.set_cons_zero, List.set_cons_succ]
      refine skipH 15 (some 50) rfl rfl (by kernel_rfl) (by kernel_rfl) (by kernel_rfl) (fun _ _ _ h => h) (by rfl) hS1 ?_
      simp only [Act.put, List.setIfInBounds_toArray, List.set_cons_zero, List.set_cons_succ]
      refine skipH 16 (some 51) rfl rfl (by kernel_rfl) (by kernel_rfl) (by kernel_rfl) (fun _ _ _ h => h) (by rfl) hS1 ?_
      simp only [Act.put, List.setIfInBounds_toArray, List.set_cons_zero, List.set_cons_succ]
      refine skipH 17 (some 52) rfl rfl (by kernel_rfl) (by kernel_rfl) (by kernel_rfl) (fun _ _ _ h => h) (by rfl) hS1 ?_
      simp only [Act.put, List.setIfInBounds_toArray, List.set_cons_zero, List.set_cons_succ]
      refine skipH 18 (some 53) rfl rfl (by kernel_rfl) (by kernel_rfl) (by kernel_rfl) (fun _ _ _ h => h) (by rfl) hS1 ?_
      simp only [Act.put, List.setIfInBounds_toArray, List.set_cons_zero, List.set_cons_succ]
      refine skip1H 19 (some 54) rfl rfl (by kernel_rfl) (by rfl) hS1 ?_
      simp only [Act.put, List.setIfInBounds_toArray, List.set_cons_zero, List.set_cons_succ]
      refine skipH 20 (some 55) rfl rfl (by kernel_rfl) (by kernel_rfl) (by kernel_rfl) (fun _ _ _ h => h) (by rfl) hS1 ?_
      simp only [Act.put, List.setIfInBounds_toArray, List.set_cons_zero, List.set_cons_succ]
      refine takeH 21 (some 56) (.bool true) rfl rfl (by kernel_rfl) (by kernel_rfl) (by kernel_rfl) (fun _ _ _ h => h) (by rfl) hS1 (fun V hV => by obtain ⟨v1, v2, v3, v4, v5, v6, v7⟩ := hV; go_simp) ?_
      simp only [Act.put, List.setIfInBounds_toArray, List.set_cons_zero, List.set_cons_succ]
      refine wpAnyH_done (by kernel_rfl) ?_ _
      have hbW3 : Below W.heap.size W w3 := below_next ((Below.refl W.heap.size W).drew) (Nat.le_refl _) hb3
      have bR4 : Boxed w3 (w.heap.size + 1 + 1) 4 (.bool false) := (hbW3.block _ bR3.lt).trans bR3
      have c4 := bR4.cell
      have f4 := bR4.frozen
      have HN : Hid (¬ MOk k v L H v U v V) := fun x => by
        have := x.2.2.2.2.2 _ (tok_mem HED.out HX.out)
        simp only [okT] at this
        omega
      gi_wp2_with fail
      exact ⟨(keeps_below hbW3).trans ((KeepsOthers.setCell _ _ _).from _), ⟨(below_next hB (Nat.le_refl _) hbW3).setCell (by simp; omega) _, by simp [World.setCell]; have := hbW3.size; omega⟩, ⟨rfl, HN.out⟩, bR4.set _⟩
    have hda : decide (upT U V (i, kk, e) < U e) = false := by simpa using ha
    by_cases hb9 : dnT U V (i, kk, e) < V e
    · have hdb : decide (dnT U V (i, kk, e) < V e) = true := by simpa using hb9
      gi_wp2_with fail
      refine region_round (fun X : World => X.cell? ⟨w.heap.size + 1, 0, none⟩ = some (.slice (some ⟨bu, ou, none⟩) v ucap) ∧ X.cell? ⟨w.heap.size + 1, 1, none⟩ = some (.slice (some ⟨bv, ov, none⟩) v vcap) ∧ X.cell? ⟨bT, 0, none⟩ = some (.int .i64 (i : Int)) ∧ X.cell? ⟨bT, 1, none⟩ = some (.int .i64 (kk : Int)) ∧ X.cell? ⟨bT, 2, none⟩ = some (.int .i64 (e : Int)) ∧ X.cell? ⟨bu, ou + e, none⟩ = some (.int .i64 (U e)) ∧ X.cell? ⟨bv, ov + e, none⟩ = some (.int .i64 (V e))) (by kernel_rfl) (by kernel_rfl) (fun ⟨_, _, h⟩ => h) ?_
      refine takeH 0 (some 35) (.pointer (some ⟨w.heap.size + 1, 0, none⟩)) rfl rfl (by kernel_rfl) (by kernel_rfl) (by kernel_rfl) (fun _ _ _ h => h) (by rfl) hS0 (fun V hV => by obtain ⟨v1, v2, v3, v4, v5, v6, v7⟩ := hV; go_simp) ?_
      simp only [Act.put, List.setIfInBounds_toArray, List.set_cons_zero, List.set_cons_succ]
      refine takeH 1 (some 36) (.slice (some ⟨bu, ou, none⟩) v ucap) rfl rfl (by kernel_rfl) (by kernel_rfl) (by kernel_rfl) (fun _ _ _ h => h) (by rfl) hS0 (fun V hV => by obtain ⟨v1, v2, v3, v4, v5, v6, v7⟩ := hV; go_simp) ?_
      simp only [Act.put, List.setIfInBounds_toArray, List.set_cons_zero, List.set_cons_succ]
      refine takeH 2 (some 37) (.pointer (some ⟨bT, 2, none⟩)) rfl rfl (by kernel_rfl) (by kernel_rfl) (by kernel_rfl) (fun _ _ _ h => h) (by rfl) hS0 (fun V hV => by obtain ⟨v1, v2, v3, v4, v5, v6, v7⟩ := hV; go_simp) ?_
      simp only [Act.put, List.setIfInBounds_toArray, List.set_cons_zero, List.set_cons_succ]
      refine takeH 3 (some 38) (.int .i64 (e : Int)) rfl rfl (by kernel_rfl) (by kernel_rfl) (by kernel_rfl) (fun _ _ _ h => h) (by rfl) hS0 (fun V hV => by obtain ⟨v1, v2, v3, v4, v5, v6, v7⟩ := hV; go_simp) ?_
      simp only [Act.put, List.setIfInBounds_toArray, List.set_cons_zero, List.set_cons_succ]
      refine takeH 4 (some 39) (.pointer (some ⟨bu, ou + e, none⟩)) rfl rfl (by kernel_rfl) (by kernel_rfl) (by kernel_rfl) (fun _ _ _ h => h) (by rfl) hS0 (fun V hV => by obtain ⟨v1, v2, v3, v4, v5, v6, v7⟩ := hV; go_simp) ?_
      simp only [Act.put, List.setIfInBounds_toArray, List.set_cons_zero, List.set_cons_succ]
      refine takeH 5 (some 40) (.int .i64 (U e)) rfl rfl (by kernel_rfl) (by kernel_rfl) (by kernel_rfl) (fun _ _ _ h => h) (by rfl) hS0 (fun V hV => by obtain ⟨v1, v2, v3, v4, v5, v6, v7⟩ := hV; go_simp) ?_
      simp only [Act.put, List.setIfInBounds_toArray, List.set_cons_zero, List.set_cons_succ]
      refine takeH 6 (some 41) (.agg #[.slice (some ⟨bu, ou, none⟩) v ucap, .slice (some ⟨bv, ov, none⟩) v vcap]) rfl rfl (by kernel_rfl) (by kernel_rfl) (by kernel_rfl) (fun _ _ _ h => h) (by rfl) hS0 (fun V hV => by obtain ⟨v1, v2, v3, v4, v5, v6, v7⟩ := hV; go_simp) ?_
      simp only [Act.put, List.setIfInBounds_toArray, List.set_cons_zero, List.set_cons_succ]
      refine takeH 7 (some 42) (.agg #[.int .i64 (i : Int), .int .i64 (kk : Int), .int .i64 (e : Int)]) rfl rfl (by kernel_rfl) (by kernel_rfl) (by kernel_rfl) (fun _ _ _ h => h) (by rfl) hS0 (fun V hV => by obtain ⟨v1, v2, v3, v4, v5, v6, v7⟩ := hV; go_simp) ?_
      simp only [Act.put, List.setIfInBounds_toArray, List.set_cons_zero, List.set_cons_succ]
      refine step1H 8 _ rfl (by kernel_rfl) (by rfl) ?_
      go_simp
      refine (upBelow_any _ v ucap U _ v vcap V (i, kk, e) hiv hkv hUF hVF hm hm _ rU rV).mono ?_
      rintro e9 w3 ⟨rfl, hb3⟩
      have hS1 := hupk w3 hb3
      have rU3 := rU.below hb3 (Nat.le_refl _)
      have rV3 := rV.below hb3 (Nat.le_refl _)
      refine ⟨hS1, ?_⟩
      refine takeH 9 (some 44) (.bool false) rfl rfl (by kernel_rfl) (by kernel_rfl) (by kernel_rfl) (fun _ _ _ h => h) (by rfl) hS1 (fun V hV => by obtain ⟨v1, v2, v3, v4, v5, v6, v7⟩ := hV; go_simp) ?_
      simp only [Act.put, List.setIfInBounds_toArray, List.set_cons_zero, List.set_cons_succ]
      refine takeH 10 (some 45) (.bool false) rfl rfl (by kernel_rfl) (by kernel_rfl) (by kernel_rfl) (fun _ _ _ h => h) (by rfl) hS1 (fun V hV => by obtain ⟨v1, v2, v3, v4, v5, v6, v7⟩ := hV; go_simp) ?_
      simp only [Act.put, List.setIfInBounds_toArray, List.set_cons_zero, List.set_cons_succ]
      refine takeH 11 (some 46) (.pointer (some ⟨w.heap.size + 1, 1, none⟩)) rfl rfl (by kernel_rfl) (by kernel_rfl) (by kernel_rfl) (fun _ _ _ h => h) (by rfl) hS1 (fun V hV => by obtain ⟨v1, v2, v3, v4, v5, v6, v7⟩ := hV; go_simp) ?_
      simp only [Act.put, List.setIfInBounds_toArray, List.set_cons_zero, List.set_cons_succ]
      refine takeH 12 (some 47) (.slice (some ⟨bv, ov, none⟩) v vcap) rfl rfl (by kernel_rfl) (by kernel_rfl) (by kernel_rfl) (fun _ _ _ h => h) (by rfl) hS1 (fun V hV => by obtain ⟨v1, v2, v3, v4, v5, v6, v7⟩ := hV; go_simp) ?_
      simp only [Act.put, List.setIfInBounds_toArray, List.set_cons_zero, List.set_cons_succ]
      refine takeH 13 (some 48) (.pointer (some ⟨bT, 2, none⟩)) rfl rfl (by kernel_rfl) (by kernel_rfl) (by kernel_rfl) (fun _ _ _ h => h) (by rfl) hS1 (fun V hV => by obtain ⟨v1, v2, v3, v4, v5, v6, v7⟩ := hV; go_simp) ?_
      simp only [Act.put, List.setIfInBounds_toArray, List.set_cons_zero, List.set_cons_succ]
      refine takeH 14 (some 49) (.int .i64 (e : Int)) rfl rfl (by kernel_rfl) (by kernel_rfl) (by kernel_rfl) (fun _ _ _ h => h) (by rfl) hS1 (fun V hV => by obtain ⟨v1, v2, v3, v4, v5, v6, v7⟩ := hV; go_simp) ?_
      simp only [Act.put, List.setIfInBounds_toArray, List.set_cons_zero, List.set_cons_succ]
      refine takeH 15 (some 50) (.pointer (some ⟨bv, ov + e, none⟩)) rfl rfl (by kernel_rfl) (by kernel_rfl) (by kernel_rfl) (fun _ _ _ h => h) (by rfl) hS1 (fun V hV => by obtain ⟨v1, v2, v3, v4, v5, v6, v7⟩ := hV; go_simp) ?_
      simp only [Act.put, List.setIfInBounds_toArray, List.set_cons_zero, List.set_cons_succ]
      refine takeH 16 (some 51) (.int .i64 (V e)) rfl rfl (by kernel_rfl) (by kernel_rfl) (by kernel_rfl) (fun _ _ _ h => h) (by rfl) hS1 (fun V hV => by obtain ⟨v1, v2, v3, v4, v5, v6, v7⟩ := hV; go_simp) ?_
      simp only [Act.put, List.setIfInBounds_toArray, List.set_cons_zero, List.set_cons_succ]
      refine takeH 17 (some 52) (.agg #[.slice (some ⟨bu, ou, none⟩) v ucap, .slice (some ⟨bv, ov, none⟩) v vcap]) rfl rfl (by kernel_rfl) (by kernel_rfl) (by kernel_rfl) (fun _ _ _ h => h) (by rfl) hS1 (fun V hV => by obtain ⟨v1, v2, v3, v4, v5, v6, v7⟩ := hV; go_simp) ?_
      simp only [Act.put, List.setIfInBounds_toArray, List.set_cons_zero, List.set_cons_succ]
      refine takeH 18 (some 53) (.agg #[.int .i64 (i : Int), .int .i64 (kk : Int), .int .i64 (e : Int)]) rfl rfl (by kernel_rfl) (by kernel_rfl) (by kernel_rfl) (fun _ _ _ h => h) (by rfl) hS1 (fun V hV => by obtain ⟨v1, v2, v3, v4, v5, v6, v7⟩ := hV; go_simp) ?_
      simp only [Act.put, List.setIfInBounds_toArray, List.set_cons_zero, List.set_cons_succ]
      refine step1H 19 _ rfl (by kernel_rfl) (by rfl) ?_
      go_simp
      refine (downBelow_any _ v ucap U _ v vcap V (i, kk, e) hkv hiv hUF hVF hm hm _ rU3 rV3).mono ?_
      rintro e9 w4 ⟨rfl, hb4⟩
      have hS2 := hupk w4 (below_next hb3 (Nat.le_refl _) hb4)
      refine ⟨hS2, ?_⟩
      refine takeH 20 (some 55) (.bool true) rfl rfl (by kernel_rfl) (by kernel_rfl) (by kernel_rfl) (fun _ _ _ h => h) (by rfl) hS2 (fun V hV => by obtain ⟨v1, v2, v3, v4, v5, v6, v7⟩ := hV; go_simp) ?_
      simp only [Act.put, List.setIfInBounds_toArray, List.set_cons_zero, List.set_cons_succ]
      refine takeH 21 (some 56) (.bool true) rfl rfl (by kernel_rfl) (by kernel_rfl) (by kernel_rfl) (fun _ _ _ h => h) (by rfl) hS2 (fun V hV => by obtain ⟨v1, v2, v3, v4, v5, v6, v7⟩ := hV; go_simp) ?_
      simp only [Act.put, List.setIfInBounds_toArray, List.set_cons_zero, List.set_cons_succ]
      refine wpAnyH_done (by kernel_rfl) ?_ _
      have hbW3 : Below W.heap.size W w4 := below_next ((Below.refl W.heap.size W).drew) (Nat.le_refl _) (below_next hb3 (Nat.le_refl _) hb4)
      have bR4 : Boxed w4 (w.heap.size + 1 + 1) 4 (.bool false) := (hbW3.block _ bR3.lt).trans bR3
      have c4 := bR4.cell
      have f4 := bR4.frozen
      have HN : Hid (¬ MOk k v L H v U v V) := fun x => by
        have := x.2.2.2.2.2 _ (tok_mem HED.out HX.out)
        simp only [okT] at this
        omega
      gi_wp2_with fail
      exact ⟨(keeps_below hbW3).trans ((KeepsOthers.setCell _ _ _).from _), ⟨(below_next hB (Nat.le_refl _) hbW3).setCell (by simp; omega) _, by simp [World.setCell]; have := hbW3.size; omega⟩, ⟨rfl, HN.out⟩, bR4.set _⟩
    have hdb : decide (dnT U V (i, kk, e) < V e) = false := by simpa using hb9
    gi_wp2_with fail
    refine region_round (fun X : World => X.cell? ⟨w.heap.size + 1, 0, none⟩ = some (.slice (some ⟨bu, ou, none⟩) v ucap) ∧ X.cell? ⟨w.heap.size + 1, 1, none⟩ = some (.slice (some ⟨bv, ov, none⟩) v vcap) ∧ X.cell? ⟨bT, 0, none⟩ = some (.int .i64 (i : Int)) ∧ X.cell? ⟨bT, 1, none⟩ = some (.int .i64 (kk : Int)) ∧ X.cell? ⟨bT, 2, none⟩ = some (.int .i64 (e : Int)) ∧ X.cell? ⟨bu, ou + e, none⟩ = some (.int .i64 (U e)) ∧ X.cell? ⟨bv, ov + e, none⟩ = some (.int .i64 (V e))) (by kernel_rfl) (by kernel_rfl) (fun ⟨_, _, h⟩ => h) ?_
    refine takeH 0 (some 35) (.pointer (some ⟨w.heap.size + 1, 0, none⟩)) rfl rfl (by kernel_rfl) (by kernel_rfl) (by kernel_rfl) (fun _ _ _ h => h) (by rfl) hS0 (fun V hV => by obtain ⟨v1, v2, v3, v4, v5, v6, v7⟩ := hV; go_simp) ?_
    simp only [Act.put, List.setIfInBounds_toArray, List.set_cons_zero, List.set_cons_succ]
    refine takeH 1 (some 36) (.slice (some ⟨bu, ou, none⟩) v ucap) rfl rfl (by kernel_rfl) (by kernel_rfl) (by kernel_rfl) (fun _ _ _ h => h) (by rfl) hS0 (fun V hV => by obtain ⟨v1, v2, v3, v4, v5, v6, v7⟩ := hV; go_simp) ?_
    simp only [Act.put, List.setIfInBounds_toArray, List.set_cons_zero, List.set_cons_succ]
    refine takeH 2 (some 37) (.pointer (some ⟨bT, 2, none⟩)) rfl rfl (by kernel_rfl) (by kernel_rfl) (by kernel_rfl) (fun _ _ _ h => h) (by rfl) hS0 (fun V hV => by obtain ⟨v1, v2, v3, v4, v5, v6, v7⟩ := hV; go_simp) ?_
    simp only [Act.put, List.setIfInBounds_toArray, List.set_cons_zero, List.set_cons_succ]
    refine takeH 3 (some 38) (.int .i64 (e : Int)) rfl rfl (by kernel_rfl) (by kernel_rfl) (by kernel_rfl) (fun _ _ _ h => h) (by rfl) hS0 (fun V hV => by obtain ⟨v1, v2, v3, v4, v5, v6, v7⟩ := hV; go_simp) ?_
    simp only [Act.put, List.setIfInBounds_toArray, List.set_cons_zero, List.set_cons_succ]
    refine takeH 4 (some 39) (.pointer (some ⟨bu, ou + e, none⟩)) rfl rfl (by kernel_rfl) (by kernel_rfl) (by kernel_rfl) (fun _ _ _ h => h) (by rfl) hS0 (fun V hV => by obtain ⟨v1, v2, v3, v4, v5, v6, v7⟩ := hV; go_simp) ?_
    simp only [Act.put, List.setIfInBounds_toArray, List.set_cons_zero, List.set_cons_succ]
    refine takeH 5 (some 40) (.int .i64 (U e)) rfl rfl (by kernel_rfl) (by kernel_rfl) (by kernel_rfl) (fun _ _ _ h => h) (by rfl) hS0 (fun V hV => by obtain ⟨v1, v2, v3, v4, v5, v6, v7⟩ := hV; go_simp) ?_
    simp only [Act.put, List.setIfInBounds_toArray, List.set_cons_zero, List.set_cons_succ]
    refine takeH 6 (some 41) (.agg #[.slice (some ⟨bu, ou, none⟩) v ucap, .slice (some ⟨bv, ov, none⟩) v vcap]) rfl rfl (by kernel_rfl) (by kernel_rfl) (by kernel_rfl) (fun _ _ _ h => h) (by rfl) hS0 (fun V hV => by obtain ⟨v1, v2, v3, v4, v5, v6, v7⟩ := hV; go_simp) ?_
    simp only [Act.put, List.setIfInBounds_toArray, List.set_cons_zero, List.set_cons_succ]
    refine takeH 7 (some 42) (.agg #[.int .i64 (i : Int), .int .i64 (kk : Int), .int .i64 (e : Int)]) rfl rfl (by kernel_rfl) (by kernel_rfl) (by kernel_rfl) (fun _ _ _ h => h) (by rfl) hS0 (fun V hV => by obtain ⟨v1, v2, v3, v4, v5, v6, v7⟩ := hV; go_simp) ?_
    simp only [Act.put, List.setIfInBounds_toArray, List.set_cons_zero, List.set_cons_succ]
    refine step1H 8 _ rfl (by kernel_rfl) (by rfl) ?_
    go_simp
    refine (upBelow_any _ v ucap U _ v vcap V (i, kk, e) hiv hkv hUF hVF hm hm _ rU rV).mono ?_
    rintro e9 w3 ⟨rfl, hb3⟩
    have hS1 := hupk w3 hb3
    have rU3 := rU.below hb3 (Nat.le_refl _)
    have rV3 := rV.below hb3 (Nat.le_refl _)
    refine ⟨hS1, ?_⟩
    refine takeH 9 (some 44) (.bool false) rfl rfl (by kernel_rfl) (by kernel_rfl) (by kernel_rfl) (fun _ _ _ h => h) (by rfl) hS1 (fun V hV => by obtain ⟨v1, v2, v3, v4, v5, v6, v7⟩ := hV; go_simp) ?_
    simp only [Act.put, List.setIfInBounds_toArray, List.set_cons_zero, List.set_cons_succ]
    refine takeH 10 (some 45) (.bool false) rfl rfl (by kernel_rfl) (by kernel_rfl) (by kernel_rfl) (fun _ _ _ h => h) (by rfl) hS1 (fun V hV => by obtain ⟨v1, v2, v3, v4, v5, v6, v7⟩ := hV; go_simp) ?_
    simp only [Act.put, List.setIfInBounds_toArray, List.set_cons_zero, List.set_cons_succ]
    refine takeH 11 (some 46) (.pointer (some ⟨w.heap.size + 1, 1, none⟩)) rfl rfl (by kernel_rfl) (by kernel_rfl) (by kernel_rfl) (fun _ _ _ h => h) (by rfl) hS1 (fun V hV => by obtain ⟨v1, v2, v3, v4, v5, v6, v7⟩ := hV; go_simp) ?_
    simp only [Act.put, List.setIfInBounds_toArray, List.set_cons_zero, List.set_cons_succ]
    refine takeH 12 (some 47) (.slice (some ⟨bv, ov, none⟩) v vcap) rfl rfl (by kernel_rfl) (by kernel_rfl) (by kernel_rfl) (fun _ _ _ h => h) (by rfl) hS1 (fun V hV => by obtain ⟨v1, v2, v3, v4, v5, v6, v7⟩ := hV; go_simp) ?_
    simp only [Act.put, List.setIfInBounds_toArray, List.set_cons_zero, List.set_cons_succ]
    refine takeH 13 (some 48) (.pointer (some ⟨bT, 2, none⟩)) rfl rfl (by kernel_rfl) (by kernel_rfl) (by kernel_rfl) (fun _ _ _ h => h) (by rfl) hS1 (fun V hV => by obtain ⟨v1, v2, v3, v4, v5, v6, v7⟩ := hV; go_simp) ?_
    simp only [Act.put, List.setIfInBounds_toArray, List.set_cons_zero, List.set_cons_succ]
    refine takeH 14 (some 49) (.int .i64 (e : Int)) rfl rfl (by kernel_rfl) (by kernel_rfl) (by kernel_rfl) (fun _ _ _ h => h) (by rfl) hS1 (fun V hV => by obtain ⟨v1, v2, v3, v4, v5, v6, v7⟩ := hV; go_simp) ?_
    simp only [Act.put, List.setIfInBounds_toArray, List.set_cons_zero, List.set_cons_succ]
    refine takeH 15 (some 50) (.pointer (some ⟨bv, ov + e, none⟩)) rfl rfl (by kernel_rfl) (by kernel_rfl) (by kernel_rfl) (fun _ _ _ h => h) (by rfl) hS1 (fun V hV => by obtain ⟨v1, v2, v3, v4, v5, v6, v7⟩ := hV; go_simp) ?_
    simp only [Act.put, List.setIfInBounds_toArray, List.set_cons_zero, List.set_cons_succ]
    refine takeH 16 (some 51) (.int .i64 (V e)) rfl rfl (by kernel_rfl) (by kernel_rfl) (by kernel_rfl) (fun _ _ _ h => h) (by rfl) hS1 (fun V hV => by obtain ⟨v1, v2, v3, v4, v5, v6, v7⟩ := hV; go_simp) ?_
    simp only [Act.put, List.setIfInBounds_toArray, List.set_cons_zero, List.set_cons_succ]
    refine takeH 17 (some 52) (.agg #[.slice (some ⟨bu, ou, none⟩) v ucap, .slice (some ⟨bv, ov, none⟩) v vcap]) rfl rfl (by kernel_rfl) (by kernel_rfl) (by kernel_rfl) (fun _ _ _ h => h) (by rfl) hS1 (fun V hV => by obtain ⟨v1, v2, v3, v4, v5, v6, v7⟩ := hV; go_simp) ?_
    simp only [Act.put, List.setIfInBounds_toArray, List.set_cons_zero, List.set_cons_succ]
    refine takeH 18 (some 53) (.agg #[.int .i64 (i : Int), .int .i64 (kk : Int), .int .i64 (e : Int)]) rfl rfl (by kernel_rfl) (by kernel_rfl) (by kernel_rfl) (fun _ _ _ h => h) (by rfl) hS1 (fun V hV => by obtain ⟨v1, v2, v3, v4, v5, v6, v7⟩ := hV; go_simp) ?_
    simp only [Act.put, List.setIfInBounds_toArray, List.set_cons_zero, List.set_cons_succ]
    refine step1H 19 _ rfl (by kernel_rfl) (by rfl) ?_
    go_simp
    refine (downBelow_any _ v ucap U _ v vcap V (i, kk, e) hkv hiv hUF hVF hm hm _ rU3 rV3).mono ?_
    rintro e9 w4 ⟨rfl, hb4⟩
    have hS2 := hupk w4 (below_next hb3 (Nat.le_refl _) hb4)
    refine ⟨hS2, ?_⟩
    refine takeH 20 (some 55) (.bool false) rfl rfl (by kernel_rfl) (by kernel_rfl) (by kernel_rfl) (fun _ _ _ h => h) (by rfl) hS2 (fun V hV => by obtain ⟨v1, v2, v3, v4, v5, v6, v7⟩ := hV; go_simp) ?_
    simp only [Act.put, List.setIfInBounds_toArray, List.set_cons_zero, List.set_cons_succ]
    refine takeH 21 (some 56) (.bool false) rfl rfl (by kernel_rfl) (by kernel_rfl) (by kernel_rfl) (fun _ _ _ h => h) (by rfl) hS2 (fun V hV => by obtain ⟨v1, v2, v3, v4, v5, v6, v7⟩ := hV; go_simp) ?_
    simp only [Act.put, List.setIfInBounds_toArray, List.set_cons_zero, List.set_cons_succ]
    refine wpAnyH_done (by kernel_rfl) ?_ _
    have hbW3 : Below W.heap.size W w4 := below_next ((Below.refl W.heap.size W).drew) (Nat.le_refl _) (below_next hb3 (Nat.le_refl _) hb4)
    have bR4 : Boxed w4 (w.heap.size + 1 + 1) 4 (.bool false) := (hbW3.block _ bR3.lt).trans bR3
    have HO : Hid (okT U V (i, kk, e)) := ⟨by simp only; omega, by simp only; omega⟩
    gi_wp2_with fail
    refine ⟨keeps_below hbW3, ⟨⟨hbW3.size, fun k o _ hk _ => (hbW3.block k (Array.getElem?_eq_some_iff.1 hk).1).trans hk⟩, fun h => h.grown (below_grownN (row := none) hbW3) (fun r e => by cases e)⟩, ⟨below_next hB (Nat.le_refl _) hbW3, by have := hbW3.size; omega⟩, ⟨keep_cell hbW3 (Nat.le_refl _) c2, keep_cell hbW3 (Nat.le_refl _) c3⟩, bR4, fun x hx => ?_⟩
    rcases List.mem_append.1 hx with hx | hx
    · exact HP.out x hx
    · rw [List.mem_singleton.1 hx]; exact HO.out
  case done =>
    rintro D ys W hD hys ⟨⟨hB, hs⟩, _, bR3, hpre⟩ hK
    have HY : Hid (MOk k v L H v U v V) := ⟨HC.out, rfl, rfl, hUF, hVF, fun t ht => by
      rw [← hys] at ht
      obtain ⟨x, hx, rfl⟩ := List.mem_map.1 ht
      exact hpre x hx⟩
    clear hpre
    have c4 := bR3.cell
    have f4 := bR3.frozen
    have bR4 := bR3.set (.bool true)
    have hB4 := hB.setCell (p := ⟨w.heap.size + 1 + 1, 0, none⟩) (by simp; omega) (.bool true)
    have hK4 : (W.setCell ⟨w.heap.size + 1 + 1, 0, none⟩ (.bool true)).heap[D]? = some (.deferred (some [])) := (Below.heap_setCell _ _ _ _ (by simp; omega)).trans hK
    gi_wp2_with fail
    refine ⟨by simp, .inl ⟨_, _, rfl, run_takeDeferred hK4, ?_⟩⟩
    have c5 : ((W.setCell ⟨w.heap.size + 1 + 1, 0, none⟩ (.bool true)).putObj D (.deferred none)).cell? ⟨w.heap.size + 1 + 1, 0, none⟩ = some (.bool true) := by
      rw [World.cell?_of_block (World.putObj_heap_other (by simp; omega))]
      exact bR4.cell
    exact ⟨.bool true, by simp [results, Try.results14, go_sem, c5], bans_yes HY.out, hB4.trans (belowK_b (w := w) (Nat.le_refl _) _ D _ _ (by omega) hK4 rfl rfl)⟩
  case stop =>
    rintro D c pre W hD _ ⟨⟨hB, hs⟩, ⟨rfl, hno⟩, bR3⟩ hK
    have HN : Hid (¬ MOk k v L H v U v V) := hno
    clear hno
    have c4 := bR3.cell
    gi_wp2_with fail
    refine ⟨by simp, .inl ⟨_, _, rfl, run_takeDeferred hK, ?_⟩⟩
    have c5 : (W.putObj D (.deferred none)).cell? ⟨w.heap.size + 1 + 1, 0, none⟩ = some (.bool false) := by
      rw [World.cell?_of_block (World.putObj_heap_other (by simp; omega))]
      exact c4
    exact ⟨.bool false, by simp [results, Try.results14, go_sem, c5], bans_no HN.out, hB.trans (belowK_b (w := w) (Nat.le_refl _) _ D _ _ (by omega) hK rfl rfl)⟩

end Go.Proofs.Ytdgnlpafmkhdjah

/-
  What a call has turned: some blocks, named in a list; all else that lay lies as it lay.
-/
set_option linter.unusedVariables false
set_option linter.unusedSimpArgs false
namespace Go.Proofs.Ytdgnlpafmkhdjah
open Go.RowKit

structure Turns (w w' : World) (S : List Nat) : Prop where
  os : w'.os = w.os
  tape : w'.tape = w.tape
  output : w'.output = w.output
  size : w.heap.size ≤ w'.heap.size
  block : ∀ k, k < w.heap.size → k ∉ S → w'.heap[k]? = w.heap[k]?
theorem Turns.refl (w : World) (S : List Nat) : Turns w w S := ⟨rfl, rfl, rfl, Nat.le_refl _, fun _ _ _ => rfl⟩
theorem Turns.of_below {w w' : World} {B : Nat} (h : Below B w w') (hB : w.heap.size ≤ B) (S : List Nat) : Turns w w' S := ⟨h.os, h.tape, h.output, h.size, fun k hk _ => h.block k (by omega)⟩
theorem Turns.of_grown {w w' : World} {b : Nat} (h : w.grownBy w' (some b)) : Turns w w' [b] := ⟨h.os, h.tape, h.output, h.size, fun k hk hn => h.block k hk (fun e => hn (by simp at e; simp [e]))⟩
theorem Turns.trans {w w1 w2 : World} {S : List Nat} (h : Turns w w1 S) (k : Turns w1 w2 S) : Turns w w2 S :=
  ⟨k.os.trans h.os, k.tape.trans h.tape, k.output.trans h.output, Nat.le_trans h.size k.size, fun j hj hn => (k.block j (Nat.lt_of_lt_of_le hj h.size) hn).trans (h.block j hj hn)⟩
theorem Turns.more {w w' : World} {S S' : List Nat} (h : Turns w w' S) (hs : ∀ x ∈ S, x ∈ S') : Turns w w' S' := ⟨h.os, h.tape, h.output, h.size, fun k hk hn => h.block k hk (fun hx => hn (hs k hx))⟩
theorem Turns.next {w w1 w2 : World} {S : List Nat} (h : Turns w w1 S) (hb : Below w1.heap.size w1 w2) : Turns w w2 S := h.trans (Turns.of_below hb (Nat.le_refl _) S)
theorem Turns.below {w w' : World} {S : List Nat} {B : Nat} (h : Turns w w' S) (hB : B ≤ w.heap.size) (hs : ∀ x ∈ S, B ≤ x) : Below B w w' :=
  ⟨h.os, h.tape, h.output, h.size, fun k hk => h.block k (by omega) (fun hx => by have := hs k hx; omega)⟩
theorem Turns.cell {w w' : World} {S : List Nat} {b o : Nat} {v : Value} (h : Turns w w' S) (hb : b ∉ S) (hc : w.cell? ⟨b, o, none⟩ = some v) : w'.cell? ⟨b, o, none⟩ = some v := by
  rw [World.cell?_of_block (h.block b (lt_of_cell hc) hb)]
  exact hc
theorem Turns.ihas {w w' : World} {S : List Nat} {b n : Nat} {f : Nat → Int} (h : Turns w w' S) (hb : b ∉ S) (hi : IHas w b n f) : IHas w' b n f := hi.of_block (h.block b hi.lt hb)
theorem Turns.ehas {w w' : World} {S : List Nat} {b n : Nat} {f : Nat → Int} (h : Turns w w' S) (hb : b ∉ S) (hi : EHas w b n f) : EHas w' b n f := hi.of_block (h.block b hi.lt hb)

/-- Two lists of one answer: their blocks, whatever is empty. -/
theorem pick2 {w W : World} {ao eo : Option Addr} {k m : Nat} {R S : Nat → Prop} (h1 : 0 < k → ∃ g, ao = some ⟨g, 0, none⟩ ∧ w.heap.size ≤ g ∧ R g) (h2 : 0 < m → ∃ g, eo = some ⟨g, 0, none⟩ ∧ w.heap.size ≤ g ∧ S g)
    (l1 : ∀ g, R g → g < W.heap.size) (l2 : ∀ g, S g → g < W.heap.size) (hne : ∀ g g', ao = some ⟨g, 0, none⟩ → eo = some ⟨g', 0, none⟩ → R g → S g' → g ≠ g') (hs : w.heap.size + 2 ≤ W.heap.size) :
    ∃ b c, (0 < k → ao = some ⟨b, 0, none⟩) ∧ (0 < k → R b) ∧ (0 < m → eo = some ⟨c, 0, none⟩) ∧ (0 < m → S c) ∧ (w.heap.size ≤ b ∧ b < W.heap.size) ∧ (w.heap.size ≤ c ∧ c < W.heap.size) ∧ b ≠ c := by
  by_cases hk : 0 < k
  · obtain ⟨g, e, hg, hR⟩ := h1 hk
    have := l1 g hR
    by_cases hm : 0 < m
    · obtain ⟨g', e', hg', hS⟩ := h2 hm
      have := l2 g' hS
      exact ⟨g, g', fun _ => e, fun _ => hR, fun _ => e', fun _ => hS, ⟨hg, by omega⟩, ⟨hg', by omega⟩, hne g g' e e' hR hS⟩
    · by_cases hx : g = w.heap.size
      · exact ⟨g, w.heap.size + 1, fun _ => e, fun _ => hR, fun h => absurd h hm, fun h => absurd h hm, ⟨hg, by omega⟩, ⟨by omega, by omega⟩, by omega⟩
      · exact ⟨g, w.heap.size, fun _ => e, fun _ => hR, fun h => absurd h hm, fun h => absurd h hm, ⟨hg, by omega⟩, ⟨by omega, by omega⟩, hx⟩
  · by_cases hm : 0 < m
    · obtain ⟨g', e', hg', hS⟩ := h2 hm
      have := l2 g' hS
      by_cases hx : g' = w.heap.size
      · exact ⟨w.heap.size + 1, g', fun h => absurd h hk, fun h => absurd h hk, fun _ => e', fun _ => hS, ⟨by omega, by omega⟩, ⟨hg', by omega⟩, by omega⟩
      · exact ⟨w.heap.size, g', fun h => absurd h hk, fun h => absurd h hk, fun _ => e', fun _ => hS, ⟨by omega, by omega⟩, ⟨hg', by omega⟩, fun e => hx e.symm⟩
    · exact ⟨w.heap.size, w.heap.size + 1, fun h => absurd h hk, fun h => absurd h hk, fun h => absurd h hm, fun h => absurd h hm, ⟨by omega, by omega⟩, ⟨by omega, by omega⟩, by omega⟩
theorem ihas_ehas {W : World} {b n m : Nat} {f g : Nat → Int} (h : IHas W b n f) (k : EHas W b m g) : False := by
  obtain ⟨c, h1, _⟩ := h
  obtain ⟨d, h2, _⟩ := k
  rw [h1] at h2
  simp at h2
theorem irow_at {W : World} {ao : Option Addr} {m b : Nat} {D : Nat → Int} (ha : 0 < m → ao = some ⟨b, 0, none⟩) (h : 0 < m → IHas W b m D) : IRow W ao m D := fun k hk => by
  rw [ha (by omega)]
  exact (h (by omega)).row k hk
theorem erow_at {W : World} {ao : Option Addr} {m b : Nat} {L H : Nat → Int} (ha : 0 < m → ao = some ⟨b, 0, none⟩) (h : 0 < m → EHas W b m (er L H)) : ERow W ao m L H := fun k hk => by
  rw [ha (by omega)]
  exact (h (by omega)).row k hk

end Go.Proofs.Ytdgnlpafmkhdjah

/-
  What the exact laws' own helpers do with lists of numbers: two are held against each other, one is marked, one is looked at for its marks.
-/
set_option linter.unusedVariables false
set_option linter.unusedSimpArgs false
namespace Go.Proofs.Ytdgnlpafmkhdjah
open Go.RowKit
attribute [local go_sem ↓] Go.wp_at_zero Go.wp_at_succ

set_option maxHeartbeats 800000 in
theorem eqInt64S_same (ao ao' : Option Addr) (n cap cap' : Nat) (f : Nat → Int) (hn : n ≤ 1048576) (w : World) (hr : IRow w ao n f) (hr' : IRow w ao' n f) :
    Calls Try.prog 33 #[.slice ao n cap, .slice ao' n cap'] w fun e w' => e = .returned (.bool true) ∧ Below w.heap.size w w' := by
  go_enter Try.func33, Try.ntmps33
  go_wp2
  go_loopw [5] (fun i wr => ∃ k : Nat, k ≤ n ∧ i = .int .i64 k ∧ Below w.heap.size w wr) (fun i _ => n - (intOf i).toNat)
  case atStart => exact ⟨0, Nat.zero_le _, rfl, Below.refl _ _⟩
  case round =>
    obtain ⟨k, hk, rfl, hbel⟩ := hrel
    by_cases hlt : k < n
    rotate_left
    · have hkn : k = n := by omega
      subst hkn
      go_wp2
      go_ret
      exact ⟨rfl, hbel⟩
    obtain ⟨b, o, hao, c0⟩ := (hr.below hbel (Nat.le_refl _)) k hlt
    obtain ⟨b', o', hao', d0⟩ := (hr'.below hbel (Nat.le_refl _)) k hlt
    subst hao
    subst hao'
    have hk1 : (0 : Int) ≤ (k : Int) := by omega
    have hk2 : (k : Int) < (n : Int) := by omega
    go_wp2
    go_quiet (fail)
    go_wp2
    go_roundw
    case rel => exact ⟨k + 1, by omega, by go_num, below_drewN hbel _⟩
    case measure => simp [intOf]; omega

/-- The marks: number j holds k + j. -/
def mki (k : Int) (j : Nat) : Int := k + j

set_option maxHeartbeats 1000000 in
theorem markInt64S_any (b n cap : Nat) (f : Nat → Int) (k : Int) (hk0 : 0 ≤ k) (hk1 : k ≤ 4000000) (hn : n ≤ 1048576) (w : World) (h : 0 < n → IHas w b n f) (ao : Option Addr) (hao : 0 < n → ao = some ⟨b, 0, none⟩) :
    Calls Try.prog 34 #[.slice ao n cap, .int .i64 k] w fun e w' => e = .returned (.int .i64 (k + n)) ∧ (0 < n → IHas w' b n (mki k)) ∧ w.grownBy w' (some b) := by
  go_enter Try.func34, Try.ntmps34
  go_wp2
  go_loopw [1, 5] (fun q i wr => ∃ m : Nat, m ≤ n ∧ i = .int .i64 m ∧ q = .int .i64 (k + m) ∧ (0 < n → IHas wr b n (fun j => if j < m then mki k j else f j)) ∧ w.grownBy wr (some b)) (fun _ i _ => n - (intOf i).toNat)
  case atStart => exact ⟨0, Nat.zero_le _, rfl, by simp, fun hp => (h hp).congr (fun j _ => by simp), World.grownBy.refl _ _⟩
  case round =>
    obtain ⟨m, hm, rfl, rfl, hh, hg⟩ := hrel
    by_cases hlt : m < n
    rotate_left
    · have e : m = n := by omega
      subst e
      go_wp2
      go_ret
      exact ⟨rfl, fun hp => (hh hp).congr (fun j hj => by rw [if_pos (by omega)]), hg⟩
    obtain rfl := hao (by omega)
    have HH := hh (by omega)
    have d0 := HH.cell (j := m) (by omega)
    have z0 := HH.frozen m
    have R := HH.set m (k + m)
    have S := hg.trans (gr_setCell _ b m (.int .i64 (k + m)))
    clear HH hh
    go_wp2
    go_roundw
    case rel =>
      refine ⟨m + 1, by omega, by go_num, by go_num, fun _ => R.congr (fun j hj => ?_), S⟩
      by_cases e0 : j = m
      · subst e0; simp [mki]
      simp only [if_neg e0]
      by_cases hl : j < m
      · rw [if_pos hl, if_pos (by omega)]
      · rw [if_neg hl, if_neg (by omega)]
    case measure => simp [intOf]; omega

set_option maxHeartbeats 1000000 in
theorem heldInt64S_any (b n cap : Nat) (k : Int) (hk0 : 0 ≤ k) (hk1 : k ≤ 4000000) (hn : n ≤ 1048576) (w : World) (h : 0 < n → IHas w b n (mki k)) (ao : Option Addr) (hao : 0 < n → ao = some ⟨b, 0, none⟩) :
    Calls Try.prog 35 #[.slice ao n cap, .int .i64 k] w fun e w' => e = .returned (.int .i64 (k + n)) ∧ w' = w := by
  go_enter Try.func35, Try.ntmps35
  go_wp2
  go_loop [1, 5] (fun q i => ∃ m : Nat, m ≤ n ∧ i = .int .i64 m ∧ q = .int .i64 (k + m)) (fun _ i => n - (intOf i).toNat)
  case atStart => exact ⟨0, Nat.zero_le _, rfl, by simp⟩
  case round =>
    obtain ⟨m, hm, rfl, rfl⟩ := hrel
    by_cases hlt : m < n
    rotate_left
    · have e : m = n := by omega
      subst e
      go_wp2
      go_ret
      exact ⟨rfl, rfl⟩
    obtain rfl := hao (by omega)
    have HH := h (by omega)
    have d0 : w.cell? ⟨b, m, none⟩ = some (.int .i64 (k + m)) := by
      rw [HH.cell (by omega)]; simp [mki]
    clear HH
    go_wp2
    go_round
    case rel => exact ⟨m + 1, by omega, by go_num, by go_num⟩
    case measure => simp [intOf]; omega

end Go.Proofs.Ytdgnlpafmkhdjah

/-
  What the reading of an argument says of its memory: a list of numbers that came in lies behind its address.
-/
set_option linter.unusedVariables false
set_option linter.unusedSimpArgs false
namespace Go.Proofs.Ytdgnlpafmkhdjah
open Go.ChangeShapes Go.WideShapes Go.ChangeAt Go.RowKit Go.Deep Go.Joins
attribute [local go_sem ↓] Go.wp_at_zero Go.wp_at_succ

set_option maxHeartbeats 400000 in
theorem toInt64S_any (ao : Option Addr) (n cap : Nat) (f : Nat → Int) (hn : n ≤ 1048576) (w : World) (hr : IRow w ao n f) :
    Calls Try.prog 49 #[.slice ao n cap] w fun e w' => e = .returned (.slice (some ⟨w.heap.size, 0, none⟩) n n) ∧ IHas w' w.heap.size n f ∧ Below w.heap.size w w' := by
  have hmk := make_ints n hn
  go_enter Try.func49, Try.ntmps49
  go_wp2
  clear hmk
  go_loopw [4] (fun i wr => ∃ k : Nat, k ≤ n ∧ i = .int .i64 k ∧ IHas wr w.heap.size n (fun j => if j < k then f j else 0) ∧ Below w.heap.size w wr) (fun i _ => n - (intOf i).toNat)
  case atStart => exact ⟨0, Nat.zero_le _, rfl, made_ints w n, (Below.refl _ _).alloc (Nat.le_refl _) _⟩
  case round =>
    obtain ⟨k, hk, rfl, hown, hbel⟩ := hrel
    by_cases hlt : k < n
    · obtain ⟨b, o, hao, c0⟩ := (hr.below hbel (Nat.le_refl _)) k hlt
      subst hao
      have d0 := hown.cell hlt
      have z0 := hown.frozen k
      have R := hown.set k (f k)
      have S := hbel.setCell (p := ⟨w.heap.size, k, none⟩) (Nat.le_refl _) (.int .i64 (f k))
      clear hown
      go_wp2
      go_roundw
      case rel =>
        refine ⟨k + 1, by omega, by go_num, R.congr (fun j hj => ?_), S⟩
        by_cases e : j = k
        · subst e; simp
        · simp only [if_neg e]
          by_cases hl : j < k
          · rw [if_pos hl, if_pos (by omega)]
          · rw [if_neg hl, if_neg (by omega)]
      case measure => simp [intOf]; omega
    · have hkn : k = n := by omega
      subst hkn
      go_wp2
      go_ret
      exact ⟨rfl, hown.congr (fun j hj => by simp [hj]), hbel⟩

set_option maxRecDepth 100000 in
theorem open_nums {H : Type} {enc : TypeId × Value → H} {w : World} {base : Nat} {spare : Nat → Bool} {held : Bool} {fuel : Nat} {cs : List Value} {x : DataW H × List MemPlace}
    (h : DataW.trod enc Try.prog w base spare held fuel 22 cs = some x) :
    ∃ (ao : Option Addr) (n cap : Nat) (P : Nat → Int), cs = [.slice ao n cap] ∧ n ≤ maxLen ∧ IRow w ao n P ∧ ∀ k, k < n → (Lit.int .i64 (P k)).wf = true := by
  rcases open_slice Try.underlying22 h with ⟨rfl, _⟩ | ⟨a, len, cap, m, n, D, Pl, rfl, hb, hl, hm, hmm, _, hx⟩
  · exact ⟨none, 0, 0, fun _ => 0, rfl, Nat.zero_le _, fun k hk => by omega, fun k hk => by omega⟩
  have hlm : len ≤ m := by rw [hmm]; split <;> omega
  have each : ∀ i, i < len → ∃ q : Int, w.cell? (a.add i) = some (.int .i64 q) ∧ (Lit.int .i64 q).wf = true := by
    intro i hi
    obtain ⟨cs', h1, h2⟩ := hx i (by omega)
    rw [Try.cellsInt] at h1
    obtain ⟨_, hlen, hcell⟩ := World.cells?_some h1
    match cs', hlen with
    | [v0], _ =>
      obtain ⟨q0, r0, _, f0⟩ := DataW.trod_int Try.underlying2 h2
      have e0 := hcell 0 (by omega)
      rw [add_add] at e0
      simp at r0
      subst r0
      exact ⟨q0, by simpa using e0, f0⟩
  obtain ⟨f, hf⟩ := choose_lt each
  refine ⟨some a, len, cap, f, rfl, by omega, fun k hk => ?_, fun k hk => (hf k hk).2⟩
  obtain ⟨b, o, spot⟩ := a
  have hspot : spot = none := by
    have := World.cell?_spot (hf 0 (by omega)).1
    simpa [Addr.add] using this
  subst hspot
  have := (hf k hk).1
  rw [Addr.add_mid] at this
  exact ⟨b, o, rfl, this⟩

end Go.Proofs.Ytdgnlpafmkhdjah
