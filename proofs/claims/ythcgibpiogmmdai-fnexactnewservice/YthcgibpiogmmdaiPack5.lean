/-
  Helpers, merged: FillI, FillW, Hier, SvN, IntsLaw, OpenInts, EdgeLaw, EdgeEq, EdgeMark.
-/
import Derived.Test.YthcgibpiogmmdaiPack4
import Derived.Test.YthcgibpiogmmdaiPack1
import Derived.Test.YthcgibpiogmmdaiPack2
import Derived.Test.YthcgibpiogmmdaiPack3
import Derived.Deep.RegionHeld3
import Derived.Deep.RegionLaw
/-
  The fill, the program's: the edges as they come, then sorted. For maps of at most 24 places and orders that have each place once.
-/
set_option linter.unusedVariables false
set_option linter.unusedSimpArgs false
namespace Go.Proofs.Ythcgibpiogmmdai
open Go.RowKit Go.Shelf
attribute [local go_sem] Oper.semAt_some

theorem below_grownN {w w' : World} {row : Option Nat} (h : Below w.heap.size w w') : w.grownBy w' row := ⟨h.os, h.tape, h.output, h.size, fun k hk _ => h.block k hk⟩
/-- What stands while the program makes the fill. -/
structure FI (w : World) (gv : Value) (p eb kb rb bm capR : Nat) (B : Nat → Nat → Bool) (gone : Nat → Bool) (R : Nat → Int) (g c : Nat) (l : List Pr) (W : World) : Prop where
  bel : Below (w.heap.size + 1) (w.alloc (.cells #[.int .i64 (p : Int), gv] 37)) W
  ebx : Boxed W eb 39 (.slice (some ⟨g, 0, none⟩) l.length c)
  kbx : Boxed W kb 38 (.slice (some ⟨rb, 0, none⟩) p capR)
  rks : IHas W rb p R
  mesh : MeshAt W bm (p : Int) B gone
  own : EOwn W (w.heap.size + 1) g c l
  ne : ((g ≠ eb ∧ g ≠ kb ∧ g ≠ rb ∧ g ≠ bm) ∧ eb ≠ kb ∧ eb ≠ rb ∧ eb ≠ bm) ∧ (bm ≠ kb ∧ bm ≠ rb ∧ kb ≠ rb) ∧ w.heap.size + 1 ≤ eb ∧ w.heap.size + 1 ≤ kb ∧ w.heap.size + 1 ≤ rb ∧ w.heap.size + 1 ≤ bm
section
variable {w : World} {gv : Value} {p eb kb rb bm capR : Nat} {B : Nat → Nat → Bool} {gone : Nat → Bool} {R : Nat → Int} {g c : Nat} {l : List Pr} {W W' : World}
/-- Where nothing of these has turned. -/
theorem FI.kept (h : FI w gv p eb kb rb bm capR B gone R g c l W) {row : Option Nat} (hg : W.grownBy W' row) (hr : ∀ r, row = some r → w.heap.size + 1 ≤ r ∧ r ≠ eb ∧ r ≠ kb ∧ r ≠ rb ∧ r ≠ bm ∧ r ≠ g) : FI w gv p eb kb rb bm capR B gone R g c l W' := by
  have hz := h.bel.size
  simp at hz
  have key : ∀ x, (x = eb ∨ x = kb ∨ x = rb ∨ x = bm ∨ x = g) → some x ≠ row := fun x hx e => by
    have := hr x e.symm
    omega
  refine ⟨?_, h.ebx.kept hg (key _ (by simp)), h.kbx.kept hg (key _ (by simp)), h.rks.grown hg (key _ (by simp)), VHas.grown h.mesh hg (key _ (by simp)), h.own.grown hg (key _ (by simp)), h.ne⟩
  refine h.bel.trans ⟨hg.os, hg.tape, hg.output, hg.size, fun k hk => hg.block k (by omega) (fun e => ?_)⟩
  have := hr k e.symm
  omega
theorem FI.next (h : FI w gv p eb kb rb bm capR B gone R g c l W) (hb : Below W.heap.size W W') : FI w gv p eb kb rb bm capR B gone R g c l W' := h.kept (below_grownN (row := none) hb) (fun r e => by cases e)
theorem FI.taken (h : FI w gv p eb kb rb bm capR B gone R g c l W) {B' : Nat → Nat → Bool} {gone' : Nat → Bool} (hg : W.grownBy W' (some bm)) (hm : MeshAt W' bm (p : Int) B' gone') : FI w gv p eb kb rb bm capR B' gone' R g c l W' := by
  have hz := h.bel.size
  have hn := h.ne
  simp at hz
  exact ⟨h.bel.trans (gr_below hg (by omega) (by omega)), h.ebx.kept hg (by simp; omega), h.kbx.kept hg (by simp; omega), h.rks.grown hg (by simp; omega), hm, h.own.grown hg (by simp; omega), hn⟩
/-- Behind an append, whose answer has been put into the box. -/
theorem FI.longer (h : FI w gv p eb kb rb bm capR B gone R g c l W) (hg : W.grownBy W' (some g)) {g' c' : Nat} {l' : List Pr} (ho : EOwn W' (w.heap.size + 1) g' c' l') (hat : g' = g ∨ g' = W.heap.size) :
    FI w gv p eb kb rb bm capR B gone R g' c' l' (W'.setCell ⟨eb, 0, none⟩ (.slice (some ⟨g', 0, none⟩) l'.length c')) := by
  have hz := h.bel.size
  have hn := h.ne
  have h1 := h.own.base
  have h2 := h.ebx.lt
  have h3 := h.kbx.lt
  have h4 := h.rks.lt
  have h5 := VHas.lt h.mesh
  simp at hz
  have hs := gr_setCell W' eb 0 (.slice (some ⟨g', 0, none⟩) l'.length c')
  have he := h.ebx.kept hg (by simp; omega)
  have hz' := hg.size
  refine ⟨(h.bel.trans (gr_below hg (by omega) (by omega))).trans (gr_below hs (by omega) (by omega)), he.set _, (h.kbx.kept hg (by simp; omega)).kept hs (by simp; omega), (h.rks.grown hg (by simp; omega)).grown hs (by simp; omega), VHas.grown (VHas.grown h.mesh hg (by simp; omega)) hs (by simp; omega), ho.grown hs (by simp; omega), by omega⟩
/-- Where only what is no cells has turned. -/
theorem FI.other (h : FI w gv p eb kb rb bm capR B gone R g c l W) {row : Option Nat} (hg : W.grownBy W' row) (hr : ∀ r, row = some r → w.heap.size + 1 ≤ r ∧ ∃ o : Obj, W.heap[r]? = some o ∧ o.isCells = false) : FI w gv p eb kb rb bm capR B gone R g c l W' := by
  refine h.kept hg (fun r e => ?_)
  obtain ⟨h1, o, h2, h3⟩ := hr r e
  have key : ∀ k cur t m, W.heap[k]? = some (.cells cur t m) → r ≠ k := fun k cur t m hk e => by
    subst e
    rw [h2] at hk
    simp at hk
    subst hk
    cases h3
  obtain ⟨c1, e1, _⟩ := h.rks
  obtain ⟨c2, e2, _⟩ := h.mesh
  obtain ⟨c3, e3, _⟩ := h.own.has
  exact ⟨h1, key _ _ _ _ h.ebx, key _ _ _ _ h.kbx, key _ _ _ _ e1, key _ _ _ _ e2, key _ _ _ _ e3⟩
end
theorem allU_len {B : Nat → Nat → Bool} {P : Nat → Int} {p : Nat} (hp : p ≤ 24) : ∀ R, (allU B P p R).length ≤ 24 * R
  | 0 => Nat.le_refl _
  | R + 1 => by
    show (allU B P p R ++ rowU B P p R p).length ≤ _
    have h1 := allU_len (B := B) (P := P) hp R
    have h2 := cntB_le (sqO B P R (P R).toNat) p
    have h3 : (rowU B P p R p).length = cntB (sqO B P R (P R).toNat) p := by unfold rowU; rw [List.length_map, visF_len]
    rw [List.length_append, h3]; omega
theorem Marked.grown {W W' : World} {Ds : List Nat} {row : Option Nat} (h : Marked W Ds) (hg : W.grownBy W' row) (hr : ∀ D ∈ Ds, row = some D → False) : Marked W' Ds :=
  ⟨h.1, fun D hD => (hg.block D (Array.getElem?_eq_some_iff.1 (h.2 D hD)).1 (fun e => hr D hD e.symm)).trans (h.2 D hD)⟩
theorem keeps_cells {B0 b : Nat} {W W' : World} (hg : W.grownBy W' (some b)) (hc : ∃ cur t m, W.heap[b]? = some (.cells cur t m)) : KeepsFrom B0 W W' :=
  ⟨hg.size, fun k o _ hk ho => (hg.block k (Array.getElem?_eq_some_iff.1 hk).1 (fun e => by
    obtain ⟨cur, t, m, hc⟩ := hc
    simp at e
    rw [e, hc] at hk
    simp at hk
    subst hk
    cases ho)).trans hk⟩
theorem keeps_below {B0 : Nat} {W W' : World} (hb : Below W.heap.size W W') : KeepsFrom B0 W W' := ⟨hb.size, fun k o _ hk _ => (hb.block k (Array.getElem?_eq_some_iff.1 hk).1).trans hk⟩
/-- What stands while the neighbours of one place are gone through. -/
def FR (w : World) (gv : Value) (p eb kb rb bm capR : Nat) (B : Nat → Nat → Bool) (gone : Nat → Bool) (R : Nat → Int) (l0 : List Pr) (r a s0 : Nat) (Ds : List Nat) (pre : List Nat) (W : World) : Prop :=
  (∃ g c, FI w gv p eb kb rb bm capR B gone R g c (l0 ++ pre.map (fun q => ((r : Int), R q))) W ∧ g ≠ s0 ∧ g ≠ s0 + 1 ∧ g ≠ s0 + 1 + 1) ∧
    Boxed W s0 3 (.int .i64 (r : Int)) ∧ Boxed W (s0 + 1) 118 (.pointer (some ⟨bm, 0, none⟩)) ∧ Boxed W (s0 + 1 + 1) 2 (.int .i64 (a : Int)) ∧ Marked W Ds
theorem FR.own {w : World} {gv : Value} {p eb kb rb bm capR : Nat} {B : Nat → Nat → Bool} {gone : Nat → Bool} {R : Nat → Int} {l0 : List Pr} {r a s0 : Nat} {Ds : List Nat} {B0 : Nat} (hB : w.heap.size + 1 ≤ B0) (hD : ∀ D ∈ Ds, D < B0) : OwnFrom B0 (FR w gv p eb kb rb bm capR B gone R l0 r a s0 Ds) := by
  rintro pre X Y row ⟨⟨g, c, h1, h2⟩, h3, h4, h5, h6⟩ hg hr
  have key : ∀ k cur t m, X.heap[k]? = some (.cells cur t m) → some k ≠ row := fun k cur t m hk e => by
    obtain ⟨_, o, h2, h3⟩ := hr k e.symm
    rw [h2] at hk
    simp at hk
    subst hk
    cases h3
  refine ⟨⟨g, c, h1.other hg (fun j e => ⟨by have := (hr j e).1; omega, (hr j e).2⟩), h2⟩, h3.kept hg (key _ _ _ _ h3), h4.kept hg (key _ _ _ _ h4), h5.kept hg (key _ _ _ _ h5), h6.grown hg (fun D hD' e => ?_)⟩
  have := (hr D e).1
  have := hD D hD'
  omega
set_option maxRecDepth 100000 in
set_option maxHeartbeats 8000000 in
theorem implFill_walk (p : Nat) (ao : Option Addr) (n cap : Nat) (F T G : Nat → Int) (po : Option Addr) (pcap : Nat) (P : Nat → Int) (hp1 : 1 ≤ p) (hp : p ≤ 24) (hn : n ≤ 100) (hF : ∀ k, k < n → 0 ≤ F k ∧ F k < (p : Int)) (hT : ∀ k, k < n → 0 ≤ T k ∧ T k < (p : Int)) (hFT : ∀ k, k < n → F k ≠ T k) (hok : ordB (p : Int) n F T G p P = true) (w : World) (hr : Row w ao n F T G) (hq : IRow w po p P) :
    Calls Try.prog 62 #[.agg #[.int .i64 (p : Int), .slice ao n cap], .slice po p pcap] w fun e w' => ∃ g c, e = .returned (.slice (some ⟨g, 0, none⟩) (allS (nbA F T n) P p p).length c) ∧ (allS (nbA F T n) P p p).length ≤ c ∧ w.heap.size ≤ g ∧ ELies w' g (allS (nbA F T n) P p p) ∧ Below w.heap.size w w' := by
  have hfair : Fair (nbA F T n) := fair_nbA n (fun k hk => by have := hF k hk; have := hT k hk; have := hFT k hk; omega)
  have hwi : Within p (nbA F T n) := within_nbA n (fun k hk => by have := hF k hk; have := hT k hk; omega)
  have hmo := fun W hr' => meshOf_any p ao n cap F T G hp hn hF hT hFT W hr'
  generalize nbA F T n = B at hfair hwi hmo ⊢
  have he : eachB p P p = true := by simp [ordB, okR] at hok; exact hok.2.2.2
  have HMO : Hid (∀ W, Row W ao n F T G → Calls Try.prog 83 #[.agg #[.int .i64 (p : Int), .slice ao n cap]] W fun e w' => ∃ bm, e = .returned (.pointer (some ⟨bm, 0, none⟩)) ∧ W.heap.size ≤ bm ∧ MeshAt w' bm (p : Int) B (fun _ => false) ∧ Below W.heap.size W w') := hmo
  clear hF hT hFT hmo
  have hL : lenR p P = p := by simp [lenR, okR, he]; omega
  refine (callsIn_wide (n := 8)).1 ?_
  refine callsIn_of_wp_marks Try.func62 rfl trivial ?_ rfl
  simp only [Try.ntmps62, List.size_toArray, List.length_cons, List.length_nil, Nat.reduceAdd, Nat.reduceSub, Array.replicate_succ, Array.replicate_zero, List.push_toArray, List.append_toArray, List.nil_append, List.cons_append]
  gi_wp2_with fail
  refine ⟨trivial, ?_⟩
  have hA0 : Below (w.heap.size + 1) (w.alloc (.cells #[.int .i64 (p : Int), .slice ao n cap] 37)) (((w.alloc (.cells #[.int .i64 (p : Int), .slice ao n cap] 37)).alloc (.cells #[] 110)).alloc (.cells #[.slice (some ⟨w.heap.size + 1, 0, none⟩) 0 0] 39)) := ((Below.refl _ _).alloc (by simp) _).alloc (by simp) _
  have hE0 : EOwn (((w.alloc (.cells #[.int .i64 (p : Int), .slice ao n cap] 37)).alloc (.cells #[] 110)).alloc (.cells #[.slice (some ⟨w.heap.size + 1, 0, none⟩) 0 0] 39)) (w.heap.size + 1) (w.heap.size + 1) 0 [] := by
    have := EOwn.empty (w.alloc (.cells #[.int .i64 (p : Int), .slice ao n cap] 37)) (base := w.heap.size + 1) (by simp)
    simp only [World.size_alloc] at this
    exact this.next ((Below.refl _ _).alloc (Nat.le_refl _) _)
  have hX0 : Boxed (((w.alloc (.cells #[.int .i64 (p : Int), .slice ao n cap] 37)).alloc (.cells #[] 110)).alloc (.cells #[.slice (some ⟨w.heap.size + 1, 0, none⟩) 0 0] 39)) (w.heap.size + 1 + 1) 39 (.slice (some ⟨w.heap.size + 1, 0, none⟩) 0 0) := by
    have := Boxed.new ((w.alloc (.cells #[.int .i64 (p : Int), .slice ao n cap] 37)).alloc (.cells #[] 110)) 39 (.slice (some ⟨w.heap.size + 1, 0, none⟩) 0 0)
    simp only [World.size_alloc] at this
    exact this
  refine (callsIn_wide.2 (implOrderOk_any (p : Int) ao n cap F T G po p pcap P (by omega) (by omega) _ ((hr.alloc _).below hA0 (by simp)) ((hq.alloc _).below hA0 (by simp)))).mono ?_
  rintro e w1 ⟨rfl, hb1⟩
  have hA1 := below_next hA0 (by simp) hb1
  have hE1 := hE0.next hb1
  have hX1 := hX0.kept (below_grownN (row := none) hb1) (by simp)
  clear hA0 hE0 hX0 hb1
  rw [hok]
  obtain ⟨x0, x1, xs⟩ := box2 hA1
  gi_wp2_with fail
  refine ⟨trivial, ?_⟩
  refine (callsIn_wide.2 (implRanks_any po p pcap P (by omega) _ ((hq.alloc _).below hA1 (by simp)))).mono ?_
  rintro e w2 ⟨aoR, capR, rfl, hR, hb2⟩
  rw [hL] at hR ⊢
  obtain ⟨rb, rfl, hrb, hR2⟩ := hR (by omega)
  have hA2 := below_next hA1 (by simp) hb2
  have hE2 := hE1.next hb2
  have hX2 := hX1.kept (below_grownN (row := none) hb2) (by simp)
  have hel := hE1.lt
  have hxl := hX1.lt
  clear hA1 hE1 hX1 hR x0 x1
  obtain ⟨x0, x1, xs2⟩ := box2 hA2
  gi_wp2_with fail
  refine ⟨trivial, ?_⟩
  have hal := (Below.refl w2.heap.size w2).alloc (Nat.le_refl _) (.cells #[.slice (some ⟨rb, 0, none⟩) p capR] 38)
  have hA3 := below_next hA2 (by simp) hal
  have hK3 := Boxed.new w2 38 (.slice (some ⟨rb, 0, none⟩) p capR)
  refine (callsIn_wide.2 (HMO.out _ ((hr.alloc _).below hA3 (by simp)))).mono ?_
  rintro e w4 ⟨bm, rfl, hbm, hM4, hb4⟩
  have hml := VHas.lt hM4
  have hrl := hR2.lt
  have hsz2 := hb2.size
  have hI4 : FI w (.slice ao n cap) p (w.heap.size + 1 + 1) w2.heap.size rb bm capR B (fun _ => false) (rk P (-1) p) (w.heap.size + 1) 0 [] w4 := by
    refine ⟨below_next hA3 (by simp) hb4, ?_, ?_, ?_, hM4, (hE2.next hal).next hb4, ?_⟩
    · exact (hX2.alloc _).kept (below_grownN (row := none) hb4) (by simp)
    · exact hK3.kept (below_grownN (row := none) hb4) (by simp)
    · exact (hR2.below hal hrl).below hb4 (by simp; omega)
    · simp at hbm
      omega
  simp only [World.size_alloc] at hbm
  clear hA2 hA3 hE2 hX2 hK3 hR2 hM4 hb4 hb2 hal x0 x1
  generalize w2.heap.size = kb at hI4 hbm hrl ⊢
  gi_wp2_with fail
  refine wpIn_loop (fun a' w' => ∃ (r g c : Nat) (gone : Nat → Bool) (Ds : List Nat) (u8 u9 u24 u25 u26 u27 u28 u29 u30 u41 u42 u43 u44 : Value), (r ≤ p ∧ Marked w' Ds ∧ (∀ D ∈ Ds, w.heap.size + 1 ≤ D) ∧ FI w (.slice ao n cap) p (w.heap.size + 1 + 1) kb rb bm capR (sqO B P r) gone (rk P (-1) p) g c (allU B P p r) w') ∧ a' = { tmps := #[.agg #[.int .i64 (p : Int), .slice ao n cap], .slice po p pcap, .pointer (some ⟨w.heap.size, 0, none⟩), undef, .slice none 0 0, .pointer (some ⟨w.heap.size + 1 + 1, 0, none⟩), .pointer (some ⟨kb, 0, none⟩), .pointer (some ⟨bm, 0, none⟩), u8, u9, undef, .slice (some ⟨w.heap.size + 1, 0, none⟩) 0 0, .agg #[.int .i64 (p : Int), .slice ao n cap], .slice po p pcap, .bool true, .bool false, undef, .slice po p pcap, .slice (some ⟨rb, 0, none⟩) p capR, .agg #[.int .i64 (p : Int), .slice ao n cap], .pointer (some ⟨bm, 0, none⟩), .slice po p pcap, .int .i64 (p : Int), .int .i64 (r : Int), u24, u25, u26, u27, u28, u29, u30, undef, undef, undef, undef, undef, undef, undef, undef, undef, undef, u41, u42, u43, u44, undef, undef, undef], defers := marks Ds }) (fun a' _ => p - (intOf (a'.tmps.getD 23 undef)).toNat) ?start ?round
  case start => exact ⟨0, _, _, _, [], _, _, _, _, _, _, _, _, _, _, _, _, _, ⟨Nat.zero_le _, ⟨List.nodup_nil, fun D hD => by cases hD⟩, (fun D hD => by cases hD), hI4⟩, rfl⟩
  case round =>
    clear hI4
    rintro a1 wr ⟨r, g, c, gone, Ds, u8, u9, u24, u25, u26, u27, u28, u29, u30, u41, u42, u43, u44, ⟨hrp, hMk, hDg, hI⟩, rfl⟩
    by_cases hlt : r < p
    rotate_left
    · have e : r = p := by omega
      subst e
      have c1 := hI.ebx.cell
      have hlen := allU_len (B := B) (P := P) hp r
      gi_wp2_with fail
      refine ⟨trivial, ?_⟩
      refine (callsIn_wide.2 (sortBy_any g c (allU B P r r) (by omega) wr hI.own.has)).mono ?_
      rintro e w6 ⟨rfl, ⟨l', hl1, hl2, hl3, hl4⟩, hg6⟩
      have hfs := fill_same hfair he hl2 hl3
      subst hfs
      have hne := hI.ne
      have hgb := hI.own.base
      have c2 := (hI.ebx.kept hg6 (by simp; omega)).cell
      have hz := hI.bel.size
      simp at hz
      have hbel6 := hI.bel.trans (gr_below hg6 (by omega) (by omega))
      have hMk6 : Marked w6 Ds := hMk.grown hg6 (fun D hD e => by
        have h1 := hMk.2 D hD
        obtain ⟨cc, h2, _⟩ := hI.own.has
        simp at e
        subst e
        rw [h1] at h2
        cases h2)
      gi_wp2
      refine leaves_marks Ds _ hMk6 (fun w' h1 h2 h3 h4 h5 => ?_)
      have hnl : g ∉ Ds := fun hD => by
        have h1 := hMk.2 g hD
        obtain ⟨cc, h2, _⟩ := hI.own.has
        rw [h1] at h2
        cases h2
      refine ⟨_, results_tmp rfl _ _ _, g, c, by rw [hl1]; rfl, by have h := hI.own.room; omega, by omega, EHas.of_block hl4 (h5 g hnl), ?_⟩
      have hub := unbox hbel6 (Nat.le_succ _)
      exact ⟨h1.trans hub.os, h2.trans hub.tape, h3.trans hub.output, by rw [h4]; exact hub.size, fun k hk => (h5 k (fun hD => by have := hDg k hD; omega)).trans (hub.block k hk)⟩
    have hlt' : (r : Int) < (p : Int) := by omega
    have hr0 : (0 : Int) ≤ (r : Int) := by omega
    obtain ⟨ha0, ha1⟩ := (each_in p he r hlt).1
    obtain ⟨a, ha⟩ : ∃ a : Nat, P r = (a : Int) := ⟨(P r).toNat, by omega⟩
    have hap : a < p := by omega
    obtain ⟨b, o, hpo, c0⟩ := ((hq.alloc _).below hI.bel (by simp)) r hlt
    subst hpo
    rw [ha] at c0
    gi_wp2_with fail
    refine ⟨trivial, ?_⟩
    refine (callsIn_wide.2 (neighbours_any bm (a : Int) _)).mono ?_
    rintro e w5 ⟨rfl, rfl⟩
    have hz := hI.bel.size
    simp at hz
    have hgl := hI.own.lt
    have hmb := VHas.lt hI.mesh
    have hkl := hI.kbx.lt
    have hrl2 := hI.rks.lt
    have hxl2 := hI.ebx.lt
    have bR := ((Boxed.new wr 3 (.int .i64 (r : Int))).alloc (.cells #[.pointer (some ⟨bm, 0, none⟩)] 118)).alloc (.cells #[.int .i64 (a : Int)] 2)
    have bM := (Boxed.new (wr.alloc (.cells #[.int .i64 (r : Int)] 3)) 118 (.pointer (some ⟨bm, 0, none⟩))).alloc (.cells #[.int .i64 (a : Int)] 2)
    have bP := Boxed.new ((wr.alloc (.cells #[.int .i64 (r : Int)] 3)).alloc (.cells #[.pointer (some ⟨bm, 0, none⟩)] 118)) 2 (.int .i64 (a : Int))
    simp only [World.size_alloc] at bM bP
    have hB0 : Below wr.heap.size wr (((wr.alloc (.cells #[.int .i64 (r : Int)] 3)).alloc (.cells #[.pointer (some ⟨bm, 0, none⟩)] 118)).alloc (.cells #[.int .i64 (a : Int)] 2)) := (((Below.refl _ wr).alloc (Nat.le_refl _) _).alloc (by simp) _).alloc (by simp; omega) _
    have hI5 := hI.next hB0
    have hMk5 : Marked (((wr.alloc (.cells #[.int .i64 (r : Int)] 3)).alloc (.cells #[.pointer (some ⟨bm, 0, none⟩)] 118)).alloc (.cells #[.int .i64 (a : Int)] 2)) Ds := hMk.grown (below_grownN (row := none) hB0) (fun D _ e => by cases e)
    have hsz : (((wr.alloc (.cells #[.int .i64 (r : Int)] 3)).alloc (.cells #[.pointer (some ⟨bm, 0, none⟩)] 118)).alloc (.cells #[.int .i64 (a : Int)] 2)).heap.size = wr.heap.size + 3 := by simp
    generalize ((wr.alloc (.cells #[.int .i64 (r : Int)] 3)).alloc (.cells #[.pointer (some ⟨bm, 0, none⟩)] 118)).alloc (.cells #[.int .i64 (a : Int)] 2) = W0 at bR bM bP hB0 hI5 hMk5 hsz ⊢
    clear hI hMk c0
    have hDl : ∀ D ∈ Ds, D < W0.heap.size := fun D hD => (Array.getElem?_eq_some_iff.1 (hMk5.2 D hD)).1
    gi_wp2
    refine range_alone rfl (by omega) (gf := 96) (lb := #[.pointer (some ⟨wr.heap.size + 1, 0, none⟩), .pointer (some ⟨wr.heap.size + 1 + 1, 0, none⟩)]) rfl trivial (enters_of Try.func96 (by kernel_rfl) rfl)
      (encs := fun x : Nat => #[Value.int .i64 (x : Int)]) (fun _ => rfl) (FR w (.slice ao n cap) p (w.heap.size + 1 + 1) kb rb bm capR (sqO B P r) gone (rk P (-1) p) (allU B P p r) r a wr.heap.size Ds) ?own ?h0
      (iter_seq 7 (by omega) (wr.heap.size + 1) (wr.heap.size + 1 + 1) bm p a hp (by omega) _ (fun _ => sqO B P r a) ?reads (fun pre x => x < p ∧ pre.length ≤ 24) (fun k hk _ => ⟨hk, by
        have h1 := visF_len (sqO B P r a) k
        have h2 := cntB_le (sqO B P r a) k
        unfold visF at h1
        omega⟩) W0)
      (fun x a' _ => a' = { tmps := #[.agg #[.int .i64 (p : Int), .slice ao n cap], .slice (some ⟨b, o, none⟩) p pcap, .pointer (some ⟨w.heap.size, 0, none⟩), undef, .slice none 0 0, .pointer (some ⟨w.heap.size + 1 + 1, 0, none⟩), .pointer (some ⟨kb, 0, none⟩), .pointer (some ⟨bm, 0, none⟩), .pointer (some ⟨wr.heap.size, 0, none⟩), .int .i64 (a : Int), .int .i64 (x : Int), .slice (some ⟨w.heap.size + 1, 0, none⟩) 0 0, .agg #[.int .i64 (p : Int), .slice ao n cap], .slice (some ⟨b, o, none⟩) p pcap, .bool true, .bool false, undef, .slice (some ⟨b, o, none⟩) p pcap, .slice (some ⟨rb, 0, none⟩) p capR, .agg #[.int .i64 (p : Int), .slice ao n cap], .pointer (some ⟨bm, 0, none⟩), .slice (some ⟨b, o, none⟩) p pcap, .int .i64 (p : Int), .int .i64 (r : Int), .bool true, .int .i64 (r : Int), .pointer (some ⟨b, o + r, none⟩), .int .i64 (a : Int), .pointer (some ⟨bm, 0, none⟩), .int .i64 (a : Int), .func (.func 96) #[] #[.pointer (some ⟨wr.heap.size + 1, 0, none⟩), .pointer (some ⟨wr.heap.size + 1 + 1, 0, none⟩)], .int .i64 (x : Int), undef, undef, undef, undef, undef, undef, undef, undef, undef, u41, u42, u43, u44, undef, undef, undef], defers := [] })
      (fun _ _ _ _ _ _ hs _ _ => hs)
      ?assign ?body ?done
    case own => exact FR.own (by omega) hDl
    case h0 => exact ⟨⟨g, c, by simpa using hI5, by omega, by omega, by omega⟩, bR, bM, bP, hMk5⟩
    case reads =>
      rintro pre W ⟨⟨g', c', h1, _⟩, _, h3, h4, _⟩
      exact Reads.of_mesh (by omega) h3.cell h4.cell h1.mesh
    case assign =>
      rintro l pre x W K hi _ hK
      gi_wp2
      exact hK _ _ (KeepsFrom.refl _ _) hi rfl
    case body =>
      rintro l pre x a' W hl hrec hi ⟨hxp, hpl⟩ rfl
      gi_wp2
      obtain ⟨⟨g', c', hF, n1, n2, n3⟩, bR', bM', bP', hMk'⟩ := hi
      have hlU := allU_len (B := B) (P := P) hp r
      have hl24 : (allU B P p r ++ pre.map (fun q => ((r : Int), rk P (-1) p q))).length ≤ 1000000 := by
        rw [List.length_append, List.length_map]
        omega
      have hsn : allU B P p r ++ (pre ++ [x]).map (fun q => ((r : Int), rk P (-1) p q)) = allU B P p r ++ pre.map (fun q => ((r : Int), rk P (-1) p q)) ++ [((r : Int), rk P (-1) p x)] := by simp
      have HSN : Hid (allU B P p r ++ (pre ++ [x]).map (fun q => ((r : Int), rk P (-1) p q)) = allU B P p r ++ pre.map (fun q => ((r : Int), rk P (-1) p q)) ++ [((r : Int), rk P (-1) p x)]) := hsn
      clear hsn
      generalize allU B P p r ++ pre.map (fun q => ((r : Int), rk P (-1) p q)) = l1 at hF hl24 HSN
      have e0 := hF.ebx.cell
      have z0 := hF.ebx.frozen
      have e1 := bR'.cell
      have e2 := hF.kbx.cell
      have e5 := hF.rks.cell hxp
      have hxp' : (x : Int) < (p : Int) := by omega
      have hx0 : (0 : Int) ≤ (x : Int) := by omega
      have hS0 : (fun V : World => V.cell? ⟨wr.heap.size, 0, none⟩ = some (.int .i64 (r : Int)) ∧ V.cell? ⟨kb, 0, none⟩ = some (.slice (some ⟨rb, 0, none⟩) p capR) ∧ V.cell? ⟨rb, x, none⟩ = some (.int .i64 (rk P (-1) p x))) W.drew := ⟨e1, e2, e5⟩
      refine region_round (fun V : World => V.cell? ⟨wr.heap.size, 0, none⟩ = some (.int .i64 (r : Int)) ∧ V.cell? ⟨kb, 0, none⟩ = some (.slice (some ⟨rb, 0, none⟩) p capR) ∧ V.cell? ⟨rb, x, none⟩ = some (.int .i64 (rk P (-1) p x))) (by kernel_rfl) (by kernel_rfl) (fun ⟨_, _, h⟩ => by simp [Exit.inBlock, roundQ] at h) ?_
      refine wpAnyH_take (i := 3) (v := .int .i64 (x : Int)) rfl (by kernel_rfl) (by kernel_rfl) (by kernel_rfl) (fun _ _ _ h => h) (Or.inl ⟨by rfl, fun V hV => ?_⟩) hS0 ?_
      · obtain ⟨v1, v2, v3⟩ := hV
        go_simp
      simp only [Act.put, List.setIfInBounds_toArray, List.set_cons_succ, List.set_cons_zero]
      refine wpAnyH_take (i := 2) (v := .slice (some ⟨rb, 0, none⟩) p capR) rfl (by kernel_rfl) (by kernel_rfl) (by kernel_rfl) (fun _ _ _ h => h) (Or.inl ⟨by rfl, fun V hV => ?_⟩) hS0 ?_
      · obtain ⟨v1, v2, v3⟩ := hV
        go_simp
      simp only [Act.put, List.setIfInBounds_toArray, List.set_cons_succ, List.set_cons_zero]
      refine wpAnyH_take (i := 4) (v := .pointer (some ⟨rb, x, none⟩)) rfl (by kernel_rfl) (by kernel_rfl) (by kernel_rfl) (fun _ _ _ h => h) (Or.inl ⟨by rfl, fun V hV => ?_⟩) hS0 ?_
      · obtain ⟨v1, v2, v3⟩ := hV
        go_simp
      simp only [Act.put, List.setIfInBounds_toArray, List.set_cons_succ, List.set_cons_zero]
      refine wpAnyH_take (i := 5) (v := .int .i64 (rk P (-1) p x)) rfl (by kernel_rfl) (by kernel_rfl) (by kernel_rfl) (fun _ _ _ h => h) (Or.inl ⟨by rfl, fun V hV => ?_⟩) hS0 ?_
      · obtain ⟨v1, v2, v3⟩ := hV
        go_simp
      simp only [Act.put, List.setIfInBounds_toArray, List.set_cons_succ, List.set_cons_zero]
      refine wpAnyH_take (i := 1) (v := .int .i64 (r : Int)) rfl (by kernel_rfl) (by kernel_rfl) (by kernel_rfl) (fun _ _ _ h => h) (Or.inl ⟨by rfl, fun V hV => ?_⟩) hS0 ?_
      · obtain ⟨v1, v2, v3⟩ := hV
        go_simp
      simp only [Act.put, List.setIfInBounds_toArray, List.set_cons_succ, List.set_cons_zero]
      refine wpAnyH_take (i := 6) (v := .agg #[.int .i64 (r : Int), .int .i64 (rk P (-1) p x)]) rfl (by kernel_rfl) (by kernel_rfl) (by kernel_rfl) (fun _ _ _ h => h) (Or.inl ⟨by rfl, fun V hV => ?_⟩) hS0 ?_
      · obtain ⟨v1, v2, v3⟩ := hV
        go_simp
      simp only [Act.put, List.setIfInBounds_toArray, List.set_cons_succ, List.set_cons_zero]
      have hWA : Below W.heap.size W (W.alloc (.cells #[.int .i64 (r : Int), .int .i64 (rk P (-1) p x)] 110)).drew := ((Below.refl _ _).alloc (Nat.le_refl _) _).drew
      have hFA := hF.next hWA
      have eA0 := hFA.ebx.cell
      have hA0 : (W.alloc (.cells #[.int .i64 (r : Int), .int .i64 (rk P (-1) p x)] 110)).drew.cell? ⟨W.heap.size, 0, none⟩ = some (.int .i64 (r : Int)) := by simp [go_sem]
      have hA1 : (W.alloc (.cells #[.int .i64 (r : Int), .int .i64 (rk P (-1) p x)] 110)).drew.cell? ⟨W.heap.size, 1, none⟩ = some (.int .i64 (rk P (-1) p x)) := by simp [go_sem]
      have hAb : w.heap.size + 1 ≤ (W.alloc (.cells #[.int .i64 (r : Int), .int .i64 (rk P (-1) p x)] 110)).drew.heap.size := by have := hFA.bel.size; simpa using this
      have hFn := hF.ne
      have hS1 : (fun V : World => V.cell? ⟨wr.heap.size, 0, none⟩ = some (.int .i64 (r : Int)) ∧ V.cell? ⟨kb, 0, none⟩ = some (.slice (some ⟨rb, 0, none⟩) p capR) ∧ V.cell? ⟨rb, x, none⟩ = some (.int .i64 (rk P (-1) p x))) (W.alloc (.cells #[.int .i64 (r : Int), .int .i64 (rk P (-1) p x)] 110)).drew := ⟨keep_cell hWA (Nat.le_refl _) e1, keep_cell hWA (Nat.le_refl _) e2, keep_cell hWA (Nat.le_refl _) e5⟩
      refine wpAnyH_ready (rs := [0, 7]) (by kernel_rfl) (by simp) (AllReadyH.cons rfl (fun K hK => ?first) (AllReadyH.cons rfl (fun K hK => ?second) AllReadyH.nil))
      case first =>
        go_simp
        refine hK.out _ _ hS0 (fun _ => ?_)
        clear hK K
        refine wpAnyH_ready (rs := [7]) (by kernel_rfl) (by simp) (AllReadyH.cons rfl (fun K hK => ?_) AllReadyH.nil)
        go_simp
        refine hK.out _ _ hS1 (fun _ => ?_)
        clear hK K
        refine wpAnyH_ready (rs := [8]) (by kernel_rfl) (by simp) (AllReadyH.cons rfl (fun K hK => ?_) AllReadyH.nil)
        refine step_append_edge rfl (.tmp 32) (.tmp 39) rfl (w.heap.size + 1) g' c' l1 rfl hFA.own W.heap.size 1 (r : Int) (rk P (-1) p x) rfl hA0 hA1 hl24 hAb ?_
        intro g2 c2 w7 hown7 hgrow7 hat7
        have q1 : w7.cell? ⟨w.heap.size + 1 + 1, 0, none⟩ = some (.slice (some ⟨g', 0, none⟩) l1.length c') := hgrow7.cell eA0 (by simp; omega)
        have q2 : w7.frozen? ⟨w.heap.size + 1 + 1, 0, none⟩ = false := (hFA.ebx.kept hgrow7 (by simp; omega)).frozen
        have hS7 : (fun V : World => V.cell? ⟨wr.heap.size, 0, none⟩ = some (.int .i64 (r : Int)) ∧ V.cell? ⟨kb, 0, none⟩ = some (.slice (some ⟨rb, 0, none⟩) p capR) ∧ V.cell? ⟨rb, x, none⟩ = some (.int .i64 (rk P (-1) p x))) w7 := ⟨hgrow7.cell hS1.1 (by simp; omega), hgrow7.cell hS1.2.1 (by simp; omega), hgrow7.cell hS1.2.2 (by simp; omega)⟩
        have hS8 : (fun V : World => V.cell? ⟨wr.heap.size, 0, none⟩ = some (.int .i64 (r : Int)) ∧ V.cell? ⟨kb, 0, none⟩ = some (.slice (some ⟨rb, 0, none⟩) p capR) ∧ V.cell? ⟨rb, x, none⟩ = some (.int .i64 (rk P (-1) p x))) (w7.setCell ⟨w.heap.size + 1 + 1, 0, none⟩ (.slice (some ⟨g2, 0, none⟩) (l1.length + 1) c2)) := by
          have hs := gr_setCell w7 (w.heap.size + 1 + 1) 0 (.slice (some ⟨g2, 0, none⟩) (l1.length + 1) c2)
          exact ⟨hs.cell hS7.1 (by simp; omega), hs.cell hS7.2.1 (by simp; omega), hs.cell hS7.2.2 (by simp; omega)⟩
        have hF8 := hFA.longer hgrow7 hown7 hat7
        rw [List.length_append] at hF8
        refine hK.out _ _ hS7 (fun _ => ?_)
        clear hK K
        simp only [Act.put, List.setIfInBounds_toArray, List.set_cons_succ, List.set_cons_zero]
        refine wpAnyH_ready (rs := [9]) (by kernel_rfl) (by simp) (AllReadyH.cons rfl (fun K hK => ?_) AllReadyH.nil)
        go_simp
        refine hK.out _ _ hS8 (fun _ => ?_)
        clear hK K
        refine wpAnyH_done (by kernel_rfl) ?_ _
        have hPl := bP'.lt
        have hg2 : g2 = g' ∨ g2 = W.heap.size + 1 := by simpa using hat7
        have hst := gr_setCell w7 (w.heap.size + 1 + 1) 0 (.slice (some ⟨g2, 0, none⟩) (l1.length + 1) c2)
        have hEc := hFA.own.has
        have hMA := hMk'.grown (below_grownN (row := none) hWA) (fun D _ e => by cases e)
        refine ⟨rfl, ((keeps_below hWA).trans (keeps_cells hgrow7 (by obtain ⟨cc, h2, _⟩ := hEc; exact ⟨_, _, _, h2⟩))).trans (keeps_cells hst ⟨_, _, _, hFA.ebx.kept hgrow7 (by simp; omega)⟩), ⟨g2, c2, by rw [HSN.out]; exact hF8, by omega, by omega, by omega⟩, ?_, ?_, ?_, ?_⟩
        · exact ((bR'.kept (below_grownN (row := none) hWA) (by simp)).kept hgrow7 (by simp; omega)).kept hst (by simp; omega)
        · exact ((bM'.kept (below_grownN (row := none) hWA) (by simp)).kept hgrow7 (by simp; omega)).kept hst (by simp; omega)
        · exact ((bP'.kept (below_grownN (row := none) hWA) (by simp)).kept hgrow7 (by simp; omega)).kept hst (by simp; omega)
        · refine (hMA.grown hgrow7 (fun D hD e => ?_)).grown hst (fun D hD e => ?_)
          · simp at e
            subst e
            obtain ⟨cc, h2, _⟩ := hEc
            have := hMA.2 _ hD
            rw [h2] at this
            cases this
          · simp at e
            have := hMk'.2 D hD
            rw [← e] at this
            have h2 := hF.ebx
            unfold Boxed at h2
            rw [h2] at this
            cases this
      case second =>
        go_simp
        refine hK.out _ _ hS1 (fun _ => ?_)
        clear hK K
        refine wpAnyH_ready (rs := [0]) (by kernel_rfl) (by simp) (AllReadyH.cons rfl (fun K hK => ?_) AllReadyH.nil)
        go_simp
        refine hK.out _ _ hS1 (fun _ => ?_)
        clear hK K
        refine wpAnyH_ready (rs := [8]) (by kernel_rfl) (by simp) (AllReadyH.cons rfl (fun K hK => ?_) AllReadyH.nil)
        refine step_append_edge rfl (.tmp 32) (.tmp 39) rfl (w.heap.size + 1) g' c' l1 rfl hFA.own W.heap.size 1 (r : Int) (rk P (-1) p x) rfl hA0 hA1 hl24 hAb ?_
        intro g2 c2 w7 hown7 hgrow7 hat7
        have q1 : w7.cell? ⟨w.heap.size + 1 + 1, 0, none⟩ = some (.slice (some ⟨g', 0, none⟩) l1.length c') := hgrow7.cell eA0 (by simp; omega)
        have q2 : w7.frozen? ⟨w.heap.size + 1 + 1, 0, none⟩ = false := (hFA.ebx.kept hgrow7 (by simp; omega)).frozen
        have hS7 : (fun V : World => V.cell? ⟨wr.heap.size, 0, none⟩ = some (.int .i64 (r : Int)) ∧ V.cell? ⟨kb, 0, none⟩ = some (.slice (some ⟨rb, 0, none⟩) p capR) ∧ V.cell? ⟨rb, x, none⟩ = some (.int .i64 (rk P (-1) p x))) w7 := ⟨hgrow7.cell hS1.1 (by simp; omega), hgrow7.cell hS1.2.1 (by simp; omega), hgrow7.cell hS1.2.2 (by simp; omega)⟩
        have hS8 : (fun V : World => V.cell? ⟨wr.heap.size, 0, none⟩ = some (.int .i64 (r : Int)) ∧ V.cell? ⟨kb, 0, none⟩ = some (.slice (some ⟨rb, 0, none⟩) p capR) ∧ V.cell? ⟨rb, x, none⟩ = some (.int .i64 (rk P (-1) p x))) (w7.setCell ⟨w.heap.size + 1 + 1, 0, none⟩ (.slice (some ⟨g2, 0, none⟩) (l1.length + 1) c2)) := by
          have hs := gr_setCell w7 (w.heap.size + 1 + 1) 0 (.slice (some ⟨g2, 0, none⟩) (l1.length + 1) c2)
          exact ⟨hs.cell hS7.1 (by simp; omega), hs.cell hS7.2.1 (by simp; omega), hs.cell hS7.2.2 (by simp; omega)⟩
        have hF8 := hFA.longer hgrow7 hown7 hat7
        rw [List.length_append] at hF8
        refine hK.out _ _ hS7 (fun _ => ?_)
        clear hK K
        simp only [Act.put, List.setIfInBounds_toArray, List.set_cons_succ, List.set_cons_zero]
        refine wpAnyH_ready (rs := [9]) (by kernel_rfl) (by simp) (AllReadyH.cons rfl (fun K hK => ?_) AllReadyH.nil)
        go_simp
        refine hK.out _ _ hS8 (fun _ => ?_)
        clear hK K
        refine wpAnyH_done (by kernel_rfl) ?_ _
        have hPl := bP'.lt
        have hg2 : g2 = g' ∨ g2 = W.heap.size + 1 := by simpa using hat7
        have hst := gr_setCell w7 (w.heap.size + 1 + 1) 0 (.slice (some ⟨g2, 0, none⟩) (l1.length + 1) c2)
        have hEc := hFA.own.has
        have hMA := hMk'.grown (below_grownN (row := none) hWA) (fun D _ e => by cases e)
        refine ⟨rfl, ((keeps_below hWA).trans (keeps_cells hgrow7 (by obtain ⟨cc, h2, _⟩ := hEc; exact ⟨_, _, _, h2⟩))).trans (keeps_cells hst ⟨_, _, _, hFA.ebx.kept hgrow7 (by simp; omega)⟩), ⟨g2, c2, by rw [HSN.out]; exact hF8, by omega, by omega, by omega⟩, ?_, ?_, ?_, ?_⟩
        · exact ((bR'.kept (below_grownN (row := none) hWA) (by simp)).kept hgrow7 (by simp; omega)).kept hst (by simp; omega)
        · exact ((bM'.kept (below_grownN (row := none) hWA) (by simp)).kept hgrow7 (by simp; omega)).kept hst (by simp; omega)
        · exact ((bP'.kept (below_grownN (row := none) hWA) (by simp)).kept hgrow7 (by simp; omega)).kept hst (by simp; omega)
        · refine (hMA.grown hgrow7 (fun D hD e => ?_)).grown hst (fun D hD e => ?_)
          · simp at e
            subst e
            obtain ⟨cc, h2, _⟩ := hEc
            have := hMA.2 _ hD
            rw [h2] at this
            cases this
          · simp at e
            have := hMk'.2 D hD
            rw [← e] at this
            have h2 := hF.ebx
            unfold Boxed at h2
            rw [h2] at this
            cases this
    case done =>
      rintro D xs W hD rfl ⟨⟨g', c', hF, n1, n2, n3⟩, bR', bM', bP', hMk'⟩ hK
      have hrw : allU B P p (r + 1) = allU B P p r ++ (vis (fun _ => sqO B P r a) p).map (fun q => ((r : Int), rk P (-1) p q)) := by
        show allU B P p r ++ rowU B P p r p = _
        unfold rowU visF
        rw [show (P r).toNat = a by omega]
      rw [← hrw] at hF
      gi_wp2_with fail
      refine ⟨trivial, ?_⟩
      refine (callsIn_wide.2 (takeAway_any bm p a (sqO B P r) gone hp hap (sqO_fair hfair P r) (sqO_within hwi P r) W hF.mesh)).mono ?_
      rintro e w8 ⟨rfl, hM8, hg8⟩
      have hF8 := hF.taken hg8 hM8
      have hsq : sqO B P (r + 1) = tk (sqO B P r) a := by
        show tk (sqO B P r) (P r).toNat = _
        rw [show (P r).toNat = a by omega]
      rw [← hsq] at hF8
      have hmne : ∀ E, W.heap[E]? = some (.deferred (some [])) → E ≠ bm := fun E hE e => by
        obtain ⟨cc, h2, _⟩ := hF.mesh
        rw [e, h2] at hE
        cases hE
      have hMk8 : Marked w8 (D :: Ds) := by
        refine Marked.grown (W := W) ⟨List.nodup_cons.2 ⟨fun hD' => ?_, hMk'.1⟩, fun E hE => ?_⟩ hg8 (fun E hE e => ?_)
        · have := hDl D hD'
          omega
        · simp at hE
          rcases hE with rfl | hE
          · exact hK
          · exact hMk'.2 E hE
        · simp at e hE
          rcases hE with rfl | hE
          · exact hmne _ hK e.symm
          · exact hmne _ (hMk'.2 E hE) e.symm
      gi_wp2
      refine ⟨⟨r + 1, g', c', _, D :: Ds, _, _, _, _, _, _, _, _, _, _, _, _, _, ⟨by omega, hMk8, fun E hE => ?_, hF8⟩, by rw [show ((r + 1 : Nat) : Int) = (r : Int) + 1 by omega]; rfl⟩, ?_⟩
      · simp at hE
        rcases hE with rfl | hE
        · omega
        · exact hDg E hE
      · simp [intOf]; omega

end Go.Proofs.Ythcgibpiogmmdai

/-
  The fill at every map and every list: the document's and the program's answer, in new memory.
-/
set_option linter.unusedVariables false
set_option linter.unusedSimpArgs false
namespace Go.Proofs.Ythcgibpiogmmdai
open Go.RowKit
attribute [local go_sem ↓] Go.wp_at_zero Go.wp_at_succ

/-- An answer in new memory, as long as its room allows. -/
def ERoom (w w' : World) (e : Ending) (m : Nat) (L H : Nat → Int) : Prop := ∃ ao cap, e = .returned (.slice ao m cap) ∧ m ≤ cap ∧ (0 < m → ∃ g, ao = some ⟨g, 0, none⟩ ∧ w.heap.size ≤ g ∧ EHas w' g m (er L H)) ∧ Below w.heap.size w w'
set_option maxHeartbeats 1000000 in
theorem implFill_room (p : Int) (ao : Option Addr) (n cap : Nat) (F T G : Nat → Int) (po : Option Addr) (m pcap : Nat) (P : Nat → Int) (hn : n ≤ 1048576) (hm : m ≤ 1048576) (w : World) (hr : Row w ao n F T G) (hq : IRow w po m P) :
    Calls Try.prog 62 #[.agg #[.int .i64 p, .slice ao n cap], .slice po m pcap] w fun e w' => ERoom w w' e (lenF p n F T G m P) (Lf (lstF p n F T P)) (Hf (lstF p n F T P)) := by
  rcases Bool.eq_false_or_eq_true (ordB p n F T G m P) with h | h
  rotate_left
  · have hL : lenF p n F T G m P = 0 := by simp [lenF, h]
    rw [hL]
    have hA0 : Below w.heap.size w (((w.alloc (.cells #[.int .i64 p, .slice ao n cap] 37)).alloc (.cells #[] 110)).alloc (.cells #[.slice (some ⟨w.heap.size + 1, 0, none⟩) 0 0] 39)) := (((Below.refl _ _).alloc (Nat.le_refl _) _).alloc (by simp) _).alloc (by simp; omega) _
    go_enter Try.func62, Try.ntmps62
    go_wp2_with (go_at_call 76; refine (implOrderOk_any p ao n cap F T G po m pcap P hn hm _ (hr.below hA0 (Nat.le_refl _)) (hq.below hA0 (Nat.le_refl _))).mono ?_; rintro e w1 ⟨rfl, hb1⟩; have hbx := keep_cell hb1 (Nat.le_refl _) (b := w.heap.size + 1 + 1) (o := 0) (by simp [go_sem]; rfl))
    go_ret
    exact ⟨_, _, rfl, Nat.le_refl _, fun h => by omega, below_next hA0 (Nat.le_refl _) hb1⟩
  obtain ⟨hmp, hg, ⟨hm1, hm2⟩, he⟩ := ordB_parts h
  subst hmp
  have hL : lenF m n F T G m P = (allS (nbA F T n) P m m).length := by simp [lenF, h, lstF]
  have hS : lstF m n F T P = allS (nbA F T n) P m m := by simp [lstF]
  rw [hL, hS]
  obtain ⟨_, hn1, hF, hT, hFT⟩ := ok_arcs hg
  refine (implFill_walk m ao n cap F T G po pcap P hm1 hm2 hn1 hF hT hFT h w hr hq).mono ?_
  rintro e w' ⟨g, c, rfl, hc, hg2, hE, hb⟩
  exact ⟨_, _, rfl, hc, fun _ => ⟨g, rfl, hg2, hE⟩, hb⟩
theorem implFill_any (p : Int) (ao : Option Addr) (n cap : Nat) (F T G : Nat → Int) (po : Option Addr) (m pcap : Nat) (P : Nat → Int) (hn : n ≤ 1048576) (hm : m ≤ 1048576) (w : World) (hr : Row w ao n F T G) (hq : IRow w po m P) :
    Calls Try.prog 62 #[.agg #[.int .i64 p, .slice ao n cap], .slice po m pcap] w fun e w' => EAns w w' e (lenF p n F T G m P) (Lf (lstF p n F T P)) (Hf (lstF p n F T P)) :=
  (implFill_room p ao n cap F T G po m pcap P hn hm w hr hq).mono fun _ _ ⟨a, c, h1, _, h2, h3⟩ => ⟨a, c, h1, h2, h3⟩

end Go.Proofs.Ythcgibpiogmmdai

/-
  NewHier, the document's and the program's: an order, and the fill by it, in new memory.
-/
set_option linter.unusedVariables false
set_option linter.unusedSimpArgs false
namespace Go.Proofs.Ythcgibpiogmmdai
open Go.RowKit
attribute [local go_sem ↓] Go.wp_at_zero Go.wp_at_succ

set_option maxHeartbeats 1000000 in
theorem implNewHier_any (p : Int) (ao : Option Addr) (n cap : Nat) (F T G : Nat → Int) (hn : n ≤ 1048576) (w : World) (hr : Row w ao n F T G) :
    Calls Try.prog 35 #[.agg #[.int .i64 p, .slice ao n cap]] w fun e w' => HAns w w' e (lenO p n F T G) (listO p n F T) (lenF p n F T G (lenO p n F T G) (listO p n F T)) (Lf (lstF p n F T (listO p n F T))) (Hf (lstF p n F T (listO p n F T))) := by
  rcases Bool.eq_false_or_eq_true (graphB p n F T G) with h | h
  rotate_left
  · have h1 : lenO p n F T G = 0 := by simp [lenO, h]
    have h2 : lenF p n F T G (lenO p n F T G) (listO p n F T) = 0 := by simp [lenF, ordB, h]
    rw [h2, h1]
    go_enter Try.func35, Try.ntmps35
    go_wp2_with (go_at_call 33; refine (implGraphOk_any p ao n cap F T G hn _ ((hr.alloc _).alloc _)).mono ?_; rintro e w1 ⟨rfl, hb1⟩; obtain ⟨⟨q0, q1⟩, ⟨q2, q3⟩, ⟨q4, q5⟩, q6⟩ := box22 (hb1.mono (by simp)))
    exact bodyPost_ret (v := .agg #[.slice none 0 0, .slice none 0 0]) (by simp [results, Try.results35, go_sem, q2, q3, q4, q5]) rfl ⟨_, _, _, _, rfl, fun h => by omega, fun h => by omega, by simp [World.setCell]; omega, ret_below (unbox2 hb1 (by simp; omega)) (by simp) _ _⟩
  have hm := lenO_le p n F T G
  have hA := fun ao' cap' W hr' => implOrder_any p ao' n cap' F T G hn W hr'
  have hB := fun ao' cap' po' pcap' W hr' hp' => implFill_any p ao' n cap' F T G po' (lenO p n F T G) pcap' (listO p n F T) hn (by omega) W hr' hp'
  generalize lenF p n F T G (lenO p n F T G) (listO p n F T) = k at hB ⊢
  generalize Lf (lstF p n F T (listO p n F T)) = L at hB ⊢
  generalize Hf (lstF p n F T (listO p n F T)) = H at hB ⊢
  generalize lenO p n F T G = m at hA hB hm ⊢
  generalize listO p n F T = D at hA hB ⊢
  have HO : Hid (∀ ao' cap' W, Row W ao' n F T G → Calls Try.prog 61 #[.agg #[.int .i64 p, .slice ao' n cap']] W fun e w' => Ans W w' e m D) := hA
  have HF : Hid (∀ ao' cap' po' pcap' W, Row W ao' n F T G → IRow W po' m D → Calls Try.prog 62 #[.agg #[.int .i64 p, .slice ao' n cap'], .slice po' m pcap'] W fun e w' => EAns W w' e k L H) := hB
  clear hA hB
  go_enter Try.func35, Try.ntmps35
  go_wp2_with fail
  refine (implGraphOk_any p ao n cap F T G hn _ ((hr.alloc _).alloc _)).mono ?_
  rw [h]
  rintro e w1 ⟨rfl, hb1⟩
  have hA1 := hb1.mono (B' := w.heap.size + 2) (by simp)
  obtain ⟨⟨q0, q1⟩, ⟨q2, q3⟩, ⟨q4, q5⟩, q6⟩ := box22 hA1
  clear hb1
  go_wp2_with fail
  refine (HO.out _ _ _ (((hr.alloc _).alloc _).below hA1 (by simp))).mono ?_
  rintro e w2 ⟨aoD, capD, rfl, hD, hb2⟩
  have hA2 := below_next hA1 (by simp) hb2
  clear q0 q1 q2 q3 q4 q5 q6
  obtain ⟨⟨q0, q1⟩, ⟨q2, q3⟩, ⟨q4, q5⟩, q6⟩ := box22 hA2
  have hrD : IRow w2 aoD m D := fun j hj => by
    obtain ⟨g, e, _, hI⟩ := hD (by omega)
    subst e
    exact hI.row j hj
  go_wp2_with fail
  refine (HF.out _ _ _ _ _ (((hr.alloc _).alloc _).below hA2 (by simp)) hrD).mono ?_
  rintro e w3 ⟨aoE, capE, rfl, hE, hb3⟩
  have hA3 := below_next hA2 (by simp) hb3
  clear q0 q1 q2 q3 q4 q5 q6
  have s1 := hA1.size
  have s2 := hA2.size
  simp only [World.size_alloc] at s1 s2
  obtain ⟨⟨q0, q1⟩, ⟨q2, q3⟩, ⟨q4, q5⟩, q6⟩ := box22 hA3
  go_wp2
  refine bodyPost_ret (v := .agg #[.slice aoD m capD, .slice aoE k capE]) (by simp [results, Try.results35, go_sem, q2, q3, q4, q5]) rfl ⟨_, _, _, _, rfl, fun h => ?_, fun h => ?_, by simp [World.setCell]; omega, ret_below (unbox2 hA3 (by simp)) (by simp) _ _⟩
  · obtain ⟨g, e, hg, hI⟩ := hD h
    exact ⟨g, e, by omega, (hI.below hb3 hI.lt).of_block (ret_block _ _ (by omega))⟩
  · obtain ⟨g, e, hg, hI⟩ := hE h
    exact ⟨g, e, by omega, hI.of_block (ret_block _ _ (by omega))⟩

end Go.Proofs.Ythcgibpiogmmdai

/-
  NewService, the document's and the program's.
-/
set_option linter.unusedVariables false
set_option linter.unusedSimpArgs false
namespace Go.Proofs.Ythcgibpiogmmdai
open Go.RowKit Go.Maps
attribute [local go_sem ↓] Go.wp_at_zero Go.wp_at_succ

theorem empty_ownsC (w : World) : (w.alloc (.cells #[] 65)).ownsRow w.heap.size 65 3 (.slice (some ⟨w.heap.size, 0, none⟩) 0 0) 0 [] := by
  have := World.ownsRow_lit (base := w.heap.size) (e := 65) (size := 3) w #[] 0 (by simp) (by simp) (by simp)
  simpa using this
theorem eql_some (a : Addr) (n cap : Nat) (w : World) : (binOp BinOp.eql 27 (.slice (some a) n cap) (.slice none 0 0)).run Try.prog w = .ok (.bool false) w := by kernel_rfl
theorem eql_none (n cap : Nat) (w : World) : (binOp BinOp.eql 27 (.slice none n cap) (.slice none 0 0)).run Try.prog w = .ok (.bool true) w := by kernel_rfl
set_option maxRecDepth 100000 in
set_option maxHeartbeats 2000000 in
theorem clone_pos (b o n cap : Nat) (F T G : Nat → Int) (hn : n ≤ 1048576) (hpos : 0 < n) (w : World) (hr : Row w (some ⟨b, o, none⟩) n F T G) :
    Calls Try.prog 60 #[.slice (some ⟨b, o, none⟩) n cap] w fun e w' => ∃ ao' cap', e = .returned (.slice ao' n cap') ∧ (0 < n → ∃ g, ao' = some ⟨g, 0, none⟩ ∧ w.heap.size ≤ g ∧ Has w' g n (ar F T G)) ∧ Below w.heap.size w w' := by
  obtain ⟨i0, hi0, hz0, hz1, hz2⟩ := info_parts Try.infoArc
  have hnil := fun W => eql_some ⟨b, o, none⟩ n cap W
  go_enter Try.func60, Try.ntmps60
  go_wp2_with (at_builtin; refine wpList_append_lies _ rfl _ _ _ rfl w.heap.size 65 i0 _ 3 24 Try.underlying27 hi0 hz0 hz1 hz2 rfl (by omega) (.slice (some ⟨w.heap.size, 0, none⟩) 0 0) 0 [] rfl (empty_ownsC w) ⟨b, o, none⟩ n cap (cellsOf (ar F T G) (n * 3)) rfl (by simp [cellsOf]) (Row.news (hr.alloc _)) (cellsOf_one _ _) hpos (by unfold maxLen; omega) (by omega) (by simp) (w.heap.size + 1) (by simp) ?_; intro g cap' w1 hown1 hgrow hat hlt)
  simp only [Nat.zero_add, List.nil_append] at hown1 ⊢
  obtain ⟨hhas, hg2⟩ := has_of_owns hown1 rfl
  go_wp2
  go_ret
  refine ⟨_, _, rfl, fun _ => ⟨g, rfl, hg2, hhas⟩, ?_⟩
  refine Below.grown ((Below.refl _ _).alloc (Nat.le_refl _) _) hgrow (by simp) ?_
  intro k hk
  simp [Value.ownBlock] at hk
  omega
set_option maxRecDepth 100000 in
set_option maxHeartbeats 2000000 in
theorem clone_zero (ao : Option Addr) (cap : Nat) (F T G : Nat → Int) (w : World) :
    Calls Try.prog 60 #[.slice ao 0 cap] w fun e w' => ∃ ao' cap', e = .returned (.slice ao' 0 cap') ∧ (0 < 0 → ∃ g, ao' = some ⟨g, 0, none⟩ ∧ w.heap.size ≤ g ∧ Has w' g 0 (ar F T G)) ∧ Below w.heap.size w w' := by
  have hsc : ∀ (a : Addr) (w : World), (storeCells a []).run Try.prog w = .ok () w := fun _ _ => rfl
  cases ao with
  | none =>
    have hnil := fun W => eql_none 0 cap W
    go_enter Try.func60, Try.ntmps60
    go_wp2
    go_ret
    exact ⟨_, _, rfl, fun h => by omega, by first | exact Below.refl _ _ | exact (Below.refl _ _).alloc (Nat.le_refl _) _⟩
  | some a =>
    have hnil := fun W => eql_some a 0 cap W
    go_enter Try.func60, Try.ntmps60
    go_wp2
    go_ret
    exact ⟨_, _, rfl, fun h => by omega, by first | exact Below.refl _ _ | exact (Below.refl _ _).alloc (Nat.le_refl _) _⟩
theorem clone_any (ao : Option Addr) (n cap : Nat) (F T G : Nat → Int) (hn : n ≤ 1048576) (w : World) (hr : Row w ao n F T G) :
    Calls Try.prog 60 #[.slice ao n cap] w fun e w' => ∃ ao' cap', e = .returned (.slice ao' n cap') ∧ (0 < n → ∃ g, ao' = some ⟨g, 0, none⟩ ∧ w.heap.size ≤ g ∧ Has w' g n (ar F T G)) ∧ Below w.heap.size w w' := by
  by_cases h : 0 < n
  · obtain ⟨b, o, e, _⟩ := hr 0 h
    subst e
    exact clone_pos b o n cap F T G hn h w hr
  · obtain rfl : n = 0 := by omega
    exact clone_zero ao cap F T G w

/-- A box of a map. -/
def gb2 (p : Int) (s : Value) (j : Nat) : Value := if j = 0 then .int .i64 p else s
theorem gb2_new (w : World) (p : Int) (s : Value) (t : TypeId) : VHas (w.alloc (.cells #[.int .i64 p, s] t)) w.heap.size t 2 (gb2 p s) :=
  ⟨_, Go.Deep.blk_alloc_new _ _, by simp, fun j hj => by
    have : j = 0 ∨ j = 1 := by omega
    rcases this with rfl | rfl <;> rfl⟩
set_option maxRecDepth 100000 in
set_option maxHeartbeats 2000000 in
theorem copyOfGraph_any (p : Int) (ao : Option Addr) (n cap : Nat) (F T G : Nat → Int) (hn : n ≤ 1048576) (w : World) (hr : Row w ao n F T G) :
    Calls Try.prog 34 #[.agg #[.int .i64 p, .slice ao n cap]] w fun e w' => ∃ ao' cap', e = .returned (.agg #[.int .i64 p, .slice ao' n cap']) ∧ (0 < n → ∃ g, ao' = some ⟨g, 0, none⟩ ∧ w.heap.size ≤ g ∧ Has w' g n (ar F T G)) ∧ Below w.heap.size w w' := by
  have hA : Below w.heap.size w ((w.alloc (.cells #[.int .i64 p, .slice ao n cap] 37)).alloc (.cells #[.int .i64 0, .slice none 0 0] 37)) := ((Below.refl _ _).alloc (Nat.le_refl _) _).alloc (by simp) _
  have vA := (gb2_new w p (.slice ao n cap) 37).alloc (.cells #[.int .i64 0, .slice none 0 0] 37)
  have vR := gb2_new (w.alloc (.cells #[.int .i64 p, .slice ao n cap] 37)) 0 (.slice none 0 0) 37
  simp only [World.size_alloc] at vR
  have hsz : ((w.alloc (.cells #[.int .i64 p, .slice ao n cap] 37)).alloc (.cells #[.int .i64 0, .slice none 0 0] 37)).heap.size = w.heap.size + 2 := by simp
  have hrw := hr.below hA (Nat.le_refl _)
  go_enter Try.func34, Try.ntmps34
  go_wp2_with fail
  generalize ((w.alloc (.cells #[.int .i64 p, .slice ao n cap] 37)).alloc (.cells #[.int .i64 0, .slice none 0 0] 37)) = W at hA vA vR hrw hsz ⊢
  have x0 : W.cell? ⟨w.heap.size, 0, none⟩ = some (.int .i64 p) := vA.cell (j := 0) (by omega)
  have x1 : W.cell? ⟨w.heap.size, 1, none⟩ = some (.slice ao n cap) := vA.cell (j := 1) (by omega)
  have hrd := hrw.below (Below.refl W.heap.size W).drew (Nat.le_refl _)
  have vAd := vA.next (Below.refl W.heap.size W).drew
  have vRd := vR.next (Below.refl W.heap.size W).drew
  have hAd := hA.drew
  have hszd : W.drew.heap.size = w.heap.size + 2 := hsz
  clear vA vR hA hrw
  go_region_law (first | (go_simp; go_at_call 60; refine (clone_any ao n cap F T G hn _ hrd).mono ?_; rintro e w1 ⟨ao', cap', rfl, hO, hb1⟩; have vA1 := vAd.next hb1; have vR1 := vRd.next hb1; have y0 : w1.cell? ⟨w.heap.size, 0, none⟩ = some (.int .i64 p) := vA1.cell (j := 0) (by omega); have y1 : w1.cell? ⟨w.heap.size, 1, none⟩ = some (.slice ao n cap) := vA1.cell (j := 1) (by omega); have r0 : w1.cell? ⟨w.heap.size + 1, 0, none⟩ = some (.int .i64 0) := vR1.cell (j := 0) (by omega); have r1 : w1.cell? ⟨w.heap.size + 1, 1, none⟩ = some (.slice none 0 0) := vR1.cell (j := 1) (by omega); have z0 := vR1.frozen 0; have z1 := vR1.frozen 1))
  all_goals
    have u := ((vR1.set 0 (.int .i64 p)).set 1 (.slice ao' n cap'))
    have q0 := u.cell (j := 0) (by omega)
    have q1 := u.cell (j := 1) (by omega)
    simp at q0 q1
    go_wp2
    refine bodyPost_ret (v := .agg #[.int .i64 p, .slice ao' n cap']) (by simp [results, Try.results34, go_sem, q0, q1]) rfl ⟨ao', cap', rfl, fun h => ?_, ?_⟩
    · obtain ⟨g, e, hg, hH⟩ := hO h
      exact ⟨g, e, by omega, (hH.of_block (Below.heap_setCell _ _ _ _ (by simp; omega))).of_block (Below.heap_setCell _ _ _ _ (by simp; omega))⟩
    · exact ((below_next hAd (Nat.le_refl _) hb1).setCell (p := ⟨w.heap.size + 1, 0, none⟩) (by simp) _).setCell (p := ⟨w.heap.size + 1, 1, none⟩) (by simp) _

/-- What NewService answers: which map, which order, which edges. -/
def IsSv (p : Int) (n : Nat) (F T G : Nat → Int) (p' : Int) (n' M : Nat) (D : Nat → Int) (N : Nat) (L H : Nat → Int) (ok : Bool) : Prop :=
  (graphB p n F T G = true ∧ p' = p ∧ n' = n ∧ M = lenO p n F T G ∧ D = listO p n F T ∧ N = lenF p n F T G (lenO p n F T G) (listO p n F T) ∧ L = Lf (lstF p n F T (listO p n F T)) ∧ H = Hf (lstF p n F T (listO p n F T)) ∧ ok = true) ∨
  (graphB p n F T G = false ∧ p' = 0 ∧ n' = 0 ∧ M = 0 ∧ N = 0 ∧ ok = false)

set_option maxRecDepth 100000 in
set_option maxHeartbeats 4000000 in
theorem specNewService_any (p : Int) (ao : Option Addr) (n cap : Nat) (F T G : Nat → Int) (hn : n ≤ 1048576) (w : World) (hr : Row w ao n F T G)
    (p' : Int) (n' M N : Nat) (D L H : Nat → Int) (ok : Bool) (hres : IsSv p n F T G p' n' M D N L H ok) :
    Calls Try.prog 12 #[.agg #[.int .i64 p, .slice ao n cap]] w fun e w' => SvAns w w' e p' n' F T G M D N L H ok := by
  have hA : Below w.heap.size w ((w.alloc (.cells #[.int .i64 p, .slice ao n cap] 37)).alloc (.cells #[.int .i64 0, .slice none 0 0, .slice none 0 0, .slice none 0 0, .int .i64 0, .slice none 0 0] 44)) := ((Below.refl _ _).alloc (Nat.le_refl _) _).alloc (by simp) _
  have vA := (gb2_new w p (.slice ao n cap) 37).alloc (.cells #[.int .i64 0, .slice none 0 0, .slice none 0 0, .slice none 0 0, .int .i64 0, .slice none 0 0] 44)
  have vR := sv6_new (w.alloc (.cells #[.int .i64 p, .slice ao n cap] 37)) 0 (.slice none 0 0) (.slice none 0 0) (.slice none 0 0) 0 (.slice none 0 0) 44
  simp only [World.size_alloc] at vR
  have hsz : ((w.alloc (.cells #[.int .i64 p, .slice ao n cap] 37)).alloc (.cells #[.int .i64 0, .slice none 0 0, .slice none 0 0, .slice none 0 0, .int .i64 0, .slice none 0 0] 44)).heap.size = w.heap.size + 2 := by simp
  have hrw := hr.below hA (Nat.le_refl _)
  have HGO := fun W h => specGraphOk_any p ao n cap F T G hn W h
  rcases hres with ⟨hg, ep, en, rfl, rfl, rfl, rfl, rfl, rfl⟩ | ⟨hg, rfl, rfl, rfl, rfl, rfl⟩
  rotate_left
  · rw [hg] at HGO
    go_enter Try.func12, Try.ntmps12
    go_wp2_with fail
    generalize ((w.alloc (.cells #[.int .i64 p, .slice ao n cap] 37)).alloc (.cells #[.int .i64 0, .slice none 0 0, .slice none 0 0, .slice none 0 0, .int .i64 0, .slice none 0 0] 44)) = W at hA vA vR hrw hsz ⊢
    refine (HGO _ hrw).mono ?_
    rintro e w1 ⟨rfl, hb1⟩
    replace vR := vR.next hb1
    have hs1 := hb1.size
    have hA1 := below_next hA (Nat.le_refl _) hb1
    have r0 : w1.cell? ⟨w.heap.size + 1, 0, none⟩ = some (.int .i64 0) := vR.cell (j := 0) (by omega)
    have r1 : w1.cell? ⟨w.heap.size + 1, 1, none⟩ = some (.slice none 0 0) := vR.cell (j := 1) (by omega)
    have r2 : w1.cell? ⟨w.heap.size + 1, 2, none⟩ = some (.slice none 0 0) := vR.cell (j := 2) (by omega)
    have r3 : w1.cell? ⟨w.heap.size + 1, 3, none⟩ = some (.slice none 0 0) := vR.cell (j := 3) (by omega)
    have r4 : w1.cell? ⟨w.heap.size + 1, 4, none⟩ = some (.int .i64 0) := vR.cell (j := 4) (by omega)
    have r5 : w1.cell? ⟨w.heap.size + 1, 5, none⟩ = some (.slice none 0 0) := vR.cell (j := 5) (by omega)
    have zz := fun j => vR.frozen j
    have u := (((((vR.set 0 (.int .i64 0)).set 1 (.slice none 0 0)).set 2 (.slice none 0 0)).set 3 (.slice none 0 0)).set 4 (.int .i64 0)).set 5 (.slice none 0 0)
    have q0 := u.cell (j := 0) (by omega)
    have q1 := u.cell (j := 1) (by omega)
    have q2 := u.cell (j := 2) (by omega)
    have q3 := u.cell (j := 3) (by omega)
    have q4 := u.cell (j := 4) (by omega)
    have q5 := u.cell (j := 5) (by omega)
    simp at q0 q1 q2 q3 q4 q5
    go_wp2
    exact bodyPost_ret (v := .tuple #[.agg #[.int .i64 0, .slice none 0 0, .slice none 0 0, .slice none 0 0, .int .i64 0, .slice none 0 0], .bool false]) (by simp [results, Try.results12, go_sem, q0, q1, q2, q3, q4, q5]) rfl (svAns_zero (by simp [World.setCell]; omega) ((((((hA1.setCell (p := ⟨w.heap.size + 1, 0, none⟩) (by simp) _).setCell (p := ⟨w.heap.size + 1, 1, none⟩) (by simp) _).setCell (p := ⟨w.heap.size + 1, 2, none⟩) (by simp) _).setCell (p := ⟨w.heap.size + 1, 3, none⟩) (by simp) _).setCell (p := ⟨w.heap.size + 1, 4, none⟩) (by simp) _).setCell (p := ⟨w.heap.size + 1, 5, none⟩) (by simp) _))
  replace ep := ep.symm
  replace en := en.symm
  subst ep en
  rw [hg] at HGO
  have HHI : Hid (∀ W, Row W ao n F T G → Calls Try.prog 32 #[.agg #[.int .i64 p, .slice ao n cap]] W fun e w' => HAns W w' e (lenO p n F T G) (listO p n F T) (lenF p n F T G (lenO p n F T G) (listO p n F T)) (Lf (lstF p n F T (listO p n F T))) (Hf (lstF p n F T (listO p n F T)))) := fun W h => specNewHier_any p ao n cap F T G hn W h
  generalize lenF p n F T G (lenO p n F T G) (listO p n F T) = N at HHI ⊢
  generalize Lf (lstF p n F T (listO p n F T)) = L at HHI ⊢
  generalize Hf (lstF p n F T (listO p n F T)) = H at HHI ⊢
  generalize lenO p n F T G = M at HHI ⊢
  generalize listO p n F T = D at HHI ⊢
  go_enter Try.func12, Try.ntmps12
  go_wp2_with fail
  generalize ((w.alloc (.cells #[.int .i64 p, .slice ao n cap] 37)).alloc (.cells #[.int .i64 0, .slice none 0 0, .slice none 0 0, .slice none 0 0, .int .i64 0, .slice none 0 0] 44)) = W at hA vA vR hrw hsz ⊢
  refine (HGO _ hrw).mono ?_
  rintro e w1 ⟨rfl, hb1⟩
  have hs1 := hb1.size
  have hA1 := (below_next hA (Nat.le_refl _) hb1).drew
  replace vA := vA.next hb1
  have x0 : w1.cell? ⟨w.heap.size, 0, none⟩ = some (.int .i64 p) := vA.cell (j := 0) (by omega)
  have x1 : w1.cell? ⟨w.heap.size, 1, none⟩ = some (.slice ao n cap) := vA.cell (j := 1) (by omega)
  replace vA := vA.next (Below.refl w1.heap.size w1).drew
  replace vR := (vR.next hb1).next (Below.refl w1.heap.size w1).drew
  replace hrw := (hrw.below hb1 (Nat.le_refl _)).below (Below.refl w1.heap.size w1).drew (Nat.le_refl _)
  have hsd : w.heap.size + 2 ≤ w1.drew.heap.size := by show w.heap.size + 2 ≤ w1.heap.size; omega
  clear hb1 hA HGO hsz hs1
  go_wp2_with fail
  go_region_law (first
    | (go_simp; go_at_call 31; refine (l1Copy_any p ao n cap F T G hn _ hrw).mono ?_; rintro e w2 ⟨gN, capN, rfl, hgN, hlN, hO, hb2⟩; have vA2 := vA.next hb2; have vR2 := vR.next hb2; have hr2 := hrw.below hb2 (Nat.le_refl _); have hs2 := hb2.size; have y0 : w2.cell? ⟨w.heap.size, 0, none⟩ = some (.int .i64 p) := vA2.cell (j := 0) (by omega); have y1 : w2.cell? ⟨w.heap.size, 1, none⟩ = some (.slice ao n cap) := vA2.cell (j := 1) (by omega))
    | (go_simp; go_at_call 32; refine (HHI.out _ hr2).mono ?_; rintro e w3 ⟨po, pc, eo, ec, rfl, hI, hE, hs3, hb3⟩; have vR3 := vR2.next hb3; have r0 : w3.cell? ⟨w.heap.size + 1, 0, none⟩ = some (.int .i64 0) := vR3.cell (j := 0) (by omega); have r1 : w3.cell? ⟨w.heap.size + 1, 1, none⟩ = some (.slice none 0 0) := vR3.cell (j := 1) (by omega); have r2 : w3.cell? ⟨w.heap.size + 1, 2, none⟩ = some (.slice none 0 0) := vR3.cell (j := 2) (by omega); have r3 : w3.cell? ⟨w.heap.size + 1, 3, none⟩ = some (.slice none 0 0) := vR3.cell (j := 3) (by omega); have r4 : w3.cell? ⟨w.heap.size + 1, 4, none⟩ = some (.int .i64 0) := vR3.cell (j := 4) (by omega); have r5 : w3.cell? ⟨w.heap.size + 1, 5, none⟩ = some (.slice none 0 0) := vR3.cell (j := 5) (by omega); have zz := fun j => vR3.frozen j))
  all_goals
    have u := (((((vR3.set 0 (.int .i64 p)).set 1 (.slice (some ⟨gN, 0, none⟩) n capN)).set 2 (.slice po M pc)).set 3 (.slice eo N ec)).set 4 (.int .i64 0)).set 5 (.slice none 0 0)
    have q0 := u.cell (j := 0) (by omega)
    have q1 := u.cell (j := 1) (by omega)
    have q2 := u.cell (j := 2) (by omega)
    have q3 := u.cell (j := 3) (by omega)
    have q4 := u.cell (j := 4) (by omega)
    have q5 := u.cell (j := 5) (by omega)
    simp at q0 q1 q2 q3 q4 q5
    have hA3 := below_next (below_next hA1 (Nat.le_refl _) hb2) (Nat.le_refl _) hb3
    have keep : ∀ x, x ≠ w.heap.size + 1 → ((((((w3.setCell ⟨w.heap.size + 1, 0, none⟩ (.int .i64 p)).setCell ⟨w.heap.size + 1, 1, none⟩ (.slice (some ⟨gN, 0, none⟩) n capN)).setCell ⟨w.heap.size + 1, 2, none⟩ (.slice po M pc)).setCell ⟨w.heap.size + 1, 3, none⟩ (.slice eo N ec)).setCell ⟨w.heap.size + 1, 4, none⟩ (.int .i64 0)).setCell ⟨w.heap.size + 1, 5, none⟩ (.slice none 0 0)).heap[x]? = w3.heap[x]? := fun x hx => by
      rw [Below.heap_setCell _ _ _ _ (by simpa using hx), Below.heap_setCell _ _ _ _ (by simpa using hx), Below.heap_setCell _ _ _ _ (by simpa using hx), Below.heap_setCell _ _ _ _ (by simpa using hx), Below.heap_setCell _ _ _ _ (by simpa using hx), Below.heap_setCell _ _ _ _ (by simpa using hx)]
    go_wp2
    refine bodyPost_ret (v := .tuple #[.agg #[.int .i64 p, .slice (some ⟨gN, 0, none⟩) n capN, .slice po M pc, .slice eo N ec, .int .i64 0, .slice none 0 0], .bool true]) (by simp [results, Try.results12, go_sem, q0, q1, q2, q3, q4, q5]) rfl (svAns_of (fun h => ?_) (fun h => ?_) (fun h => ?_) (by simp [World.setCell]; omega) ((((((hA3.setCell (p := ⟨w.heap.size + 1, 0, none⟩) (by simp) _).setCell (p := ⟨w.heap.size + 1, 1, none⟩) (by simp) _).setCell (p := ⟨w.heap.size + 1, 2, none⟩) (by simp) _).setCell (p := ⟨w.heap.size + 1, 3, none⟩) (by simp) _).setCell (p := ⟨w.heap.size + 1, 4, none⟩) (by simp) _).setCell (p := ⟨w.heap.size + 1, 5, none⟩) (by simp) _))
    · have hH := hO h
      exact ⟨gN, rfl, by omega, (hH.below hb3 hH.lt).of_block (keep gN (by omega))⟩
    · obtain ⟨g, e, hg1, hH⟩ := hI h
      exact ⟨g, e, by omega, hH.of_block (keep g (by omega))⟩
    · obtain ⟨g, e, hg1, hH⟩ := hE h
      exact ⟨g, e, by omega, hH.of_block (keep g (by omega))⟩

set_option maxRecDepth 100000 in
set_option maxHeartbeats 4000000 in
theorem implNewService_any (p : Int) (ao : Option Addr) (n cap : Nat) (F T G : Nat → Int) (hn : n ≤ 1048576) (w : World) (hr : Row w ao n F T G)
    (p' : Int) (n' M N : Nat) (D L H : Nat → Int) (ok : Bool) (hres : IsSv p n F T G p' n' M D N L H ok) :
    Calls Try.prog 14 #[.agg #[.int .i64 p, .slice ao n cap]] w fun e w' => SvAns w w' e p' n' F T G M D N L H ok := by
  have hA : Below w.heap.size w ((w.alloc (.cells #[.int .i64 p, .slice ao n cap] 37)).alloc (.cells #[.int .i64 0, .slice none 0 0, .slice none 0 0, .slice none 0 0, .int .i64 0, .slice none 0 0] 44)) := ((Below.refl _ _).alloc (Nat.le_refl _) _).alloc (by simp) _
  have vA := (gb2_new w p (.slice ao n cap) 37).alloc (.cells #[.int .i64 0, .slice none 0 0, .slice none 0 0, .slice none 0 0, .int .i64 0, .slice none 0 0] 44)
  have vR := sv6_new (w.alloc (.cells #[.int .i64 p, .slice ao n cap] 37)) 0 (.slice none 0 0) (.slice none 0 0) (.slice none 0 0) 0 (.slice none 0 0) 44
  simp only [World.size_alloc] at vR
  have hsz : ((w.alloc (.cells #[.int .i64 p, .slice ao n cap] 37)).alloc (.cells #[.int .i64 0, .slice none 0 0, .slice none 0 0, .slice none 0 0, .int .i64 0, .slice none 0 0] 44)).heap.size = w.heap.size + 2 := by simp
  have hrw := hr.below hA (Nat.le_refl _)
  have HGO := fun W h => implGraphOk_any p ao n cap F T G hn W h
  rcases hres with ⟨hg, ep, en, rfl, rfl, rfl, rfl, rfl, rfl⟩ | ⟨hg, rfl, rfl, rfl, rfl, rfl⟩
  rotate_left
  · rw [hg] at HGO
    go_enter Try.func14, Try.ntmps14
    go_wp2_with fail
    generalize ((w.alloc (.cells #[.int .i64 p, .slice ao n cap] 37)).alloc (.cells #[.int .i64 0, .slice none 0 0, .slice none 0 0, .slice none 0 0, .int .i64 0, .slice none 0 0] 44)) = W at hA vA vR hrw hsz ⊢
    refine (HGO _ hrw).mono ?_
    rintro e w1 ⟨rfl, hb1⟩
    replace vR := vR.next hb1
    have hs1 := hb1.size
    have hA1 := below_next hA (Nat.le_refl _) hb1
    have r0 : w1.cell? ⟨w.heap.size + 1, 0, none⟩ = some (.int .i64 0) := vR.cell (j := 0) (by omega)
    have r1 : w1.cell? ⟨w.heap.size + 1, 1, none⟩ = some (.slice none 0 0) := vR.cell (j := 1) (by omega)
    have r2 : w1.cell? ⟨w.heap.size + 1, 2, none⟩ = some (.slice none 0 0) := vR.cell (j := 2) (by omega)
    have r3 : w1.cell? ⟨w.heap.size + 1, 3, none⟩ = some (.slice none 0 0) := vR.cell (j := 3) (by omega)
    have r4 : w1.cell? ⟨w.heap.size + 1, 4, none⟩ = some (.int .i64 0) := vR.cell (j := 4) (by omega)
    have r5 : w1.cell? ⟨w.heap.size + 1, 5, none⟩ = some (.slice none 0 0) := vR.cell (j := 5) (by omega)
    have zz := fun j => vR.frozen j
    have u := (((((vR.set 0 (.int .i64 0)).set 1 (.slice none 0 0)).set 2 (.slice none 0 0)).set 3 (.slice none 0 0)).set 4 (.int .i64 0)).set 5 (.slice none 0 0)
    have q0 := u.cell (j := 0) (by omega)
    have q1 := u.cell (j := 1) (by omega)
    have q2 := u.cell (j := 2) (by omega)
    have q3 := u.cell (j := 3) (by omega)
    have q4 := u.cell (j := 4) (by omega)
    have q5 := u.cell (j := 5) (by omega)
    simp at q0 q1 q2 q3 q4 q5
    go_wp2
    exact bodyPost_ret (v := .tuple #[.agg #[.int .i64 0, .slice none 0 0, .slice none 0 0, .slice none 0 0, .int .i64 0, .slice none 0 0], .bool false]) (by simp [results, Try.results14, go_sem, q0, q1, q2, q3, q4, q5]) rfl (svAns_zero (by simp [World.setCell]; omega) ((((((hA1.setCell (p := ⟨w.heap.size + 1, 0, none⟩) (by simp) _).setCell (p := ⟨w.heap.size + 1, 1, none⟩) (by simp) _).setCell (p := ⟨w.heap.size + 1, 2, none⟩) (by simp) _).setCell (p := ⟨w.heap.size + 1, 3, none⟩) (by simp) _).setCell (p := ⟨w.heap.size + 1, 4, none⟩) (by simp) _).setCell (p := ⟨w.heap.size + 1, 5, none⟩) (by simp) _))
  replace ep := ep.symm
  replace en := en.symm
  subst ep en
  rw [hg] at HGO
  have HHI : Hid (∀ W, Row W ao n F T G → Calls Try.prog 35 #[.agg #[.int .i64 p, .slice ao n cap]] W fun e w' => HAns W w' e (lenO p n F T G) (listO p n F T) (lenF p n F T G (lenO p n F T G) (listO p n F T)) (Lf (lstF p n F T (listO p n F T))) (Hf (lstF p n F T (listO p n F T)))) := fun W h => implNewHier_any p ao n cap F T G hn W h
  generalize lenF p n F T G (lenO p n F T G) (listO p n F T) = N at HHI ⊢
  generalize Lf (lstF p n F T (listO p n F T)) = L at HHI ⊢
  generalize Hf (lstF p n F T (listO p n F T)) = H at HHI ⊢
  generalize lenO p n F T G = M at HHI ⊢
  generalize listO p n F T = D at HHI ⊢
  go_enter Try.func14, Try.ntmps14
  go_wp2_with fail
  generalize ((w.alloc (.cells #[.int .i64 p, .slice ao n cap] 37)).alloc (.cells #[.int .i64 0, .slice none 0 0, .slice none 0 0, .slice none 0 0, .int .i64 0, .slice none 0 0] 44)) = W at hA vA vR hrw hsz ⊢
  refine (HGO _ hrw).mono ?_
  rintro e w1 ⟨rfl, hb1⟩
  have hs1 := hb1.size
  have hA1 := (below_next hA (Nat.le_refl _) hb1).drew
  replace vA := vA.next hb1
  have x0 : w1.cell? ⟨w.heap.size, 0, none⟩ = some (.int .i64 p) := vA.cell (j := 0) (by omega)
  have x1 : w1.cell? ⟨w.heap.size, 1, none⟩ = some (.slice ao n cap) := vA.cell (j := 1) (by omega)
  replace vA := vA.next (Below.refl w1.heap.size w1).drew
  replace vR := (vR.next hb1).next (Below.refl w1.heap.size w1).drew
  replace hrw := (hrw.below hb1 (Nat.le_refl _)).below (Below.refl w1.heap.size w1).drew (Nat.le_refl _)
  have hsd : w.heap.size + 2 ≤ w1.drew.heap.size := by show w.heap.size + 2 ≤ w1.heap.size; omega
  clear hb1 hA HGO hsz hs1
  go_wp2_with fail
  go_region_law (first
    | (go_simp; go_at_call 34; refine (copyOfGraph_any p ao n cap F T G hn _ hrw).mono ?_; rintro e w2 ⟨aoN, capN, rfl, hO, hb2⟩; have vA2 := vA.next hb2; have vR2 := vR.next hb2; have hr2 := hrw.below hb2 (Nat.le_refl _); have hs2 := hb2.size; have y0 : w2.cell? ⟨w.heap.size, 0, none⟩ = some (.int .i64 p) := vA2.cell (j := 0) (by omega); have y1 : w2.cell? ⟨w.heap.size, 1, none⟩ = some (.slice ao n cap) := vA2.cell (j := 1) (by omega))
    | (go_simp; go_at_call 35; refine (HHI.out _ hr2).mono ?_; rintro e w3 ⟨po, pc, eo, ec, rfl, hI, hE, hs3, hb3⟩; have vR3 := vR2.next hb3; have r0 : w3.cell? ⟨w.heap.size + 1, 0, none⟩ = some (.int .i64 0) := vR3.cell (j := 0) (by omega); have r1 : w3.cell? ⟨w.heap.size + 1, 1, none⟩ = some (.slice none 0 0) := vR3.cell (j := 1) (by omega); have r2 : w3.cell? ⟨w.heap.size + 1, 2, none⟩ = some (.slice none 0 0) := vR3.cell (j := 2) (by omega); have r3 : w3.cell? ⟨w.heap.size + 1, 3, none⟩ = some (.slice none 0 0) := vR3.cell (j := 3) (by omega); have r4 : w3.cell? ⟨w.heap.size + 1, 4, none⟩ = some (.int .i64 0) := vR3.cell (j := 4) (by omega); have r5 : w3.cell? ⟨w.heap.size + 1, 5, none⟩ = some (.slice none 0 0) := vR3.cell (j := 5) (by omega); have zz := fun j => vR3.frozen j))
  all_goals
    have u := (((((vR3.set 0 (.int .i64 p)).set 1 (.slice aoN n capN)).set 2 (.slice po M pc)).set 3 (.slice eo N ec)).set 4 (.int .i64 0)).set 5 (.slice none 0 0)
    have q0 := u.cell (j := 0) (by omega)
    have q1 := u.cell (j := 1) (by omega)
    have q2 := u.cell (j := 2) (by omega)
    have q3 := u.cell (j := 3) (by omega)
    have q4 := u.cell (j := 4) (by omega)
    have q5 := u.cell (j := 5) (by omega)
    simp at q0 q1 q2 q3 q4 q5
    have hA3 := below_next (below_next hA1 (Nat.le_refl _) hb2) (Nat.le_refl _) hb3
    have keep : ∀ x, x ≠ w.heap.size + 1 → ((((((w3.setCell ⟨w.heap.size + 1, 0, none⟩ (.int .i64 p)).setCell ⟨w.heap.size + 1, 1, none⟩ (.slice aoN n capN)).setCell ⟨w.heap.size + 1, 2, none⟩ (.slice po M pc)).setCell ⟨w.heap.size + 1, 3, none⟩ (.slice eo N ec)).setCell ⟨w.heap.size + 1, 4, none⟩ (.int .i64 0)).setCell ⟨w.heap.size + 1, 5, none⟩ (.slice none 0 0)).heap[x]? = w3.heap[x]? := fun x hx => by
      rw [Below.heap_setCell _ _ _ _ (by simpa using hx), Below.heap_setCell _ _ _ _ (by simpa using hx), Below.heap_setCell _ _ _ _ (by simpa using hx), Below.heap_setCell _ _ _ _ (by simpa using hx), Below.heap_setCell _ _ _ _ (by simpa using hx), Below.heap_setCell _ _ _ _ (by simpa using hx)]
    go_wp2
    refine bodyPost_ret (v := .tuple #[.agg #[.int .i64 p, .slice aoN n capN, .slice po M pc, .slice eo N ec, .int .i64 0, .slice none 0 0], .bool true]) (by simp [results, Try.results14, go_sem, q0, q1, q2, q3, q4, q5]) rfl (svAns_of (fun h => ?_) (fun h => ?_) (fun h => ?_) (by simp [World.setCell]; omega) ((((((hA3.setCell (p := ⟨w.heap.size + 1, 0, none⟩) (by simp) _).setCell (p := ⟨w.heap.size + 1, 1, none⟩) (by simp) _).setCell (p := ⟨w.heap.size + 1, 2, none⟩) (by simp) _).setCell (p := ⟨w.heap.size + 1, 3, none⟩) (by simp) _).setCell (p := ⟨w.heap.size + 1, 4, none⟩) (by simp) _).setCell (p := ⟨w.heap.size + 1, 5, none⟩) (by simp) _))
    · obtain ⟨g, e, hg1, hH⟩ := hO h
      exact ⟨g, e, by omega, (hH.below hb3 hH.lt).of_block (keep g (by omega))⟩
    · obtain ⟨g, e, hg1, hH⟩ := hI h
      exact ⟨g, e, by omega, hH.of_block (keep g (by omega))⟩
    · obtain ⟨g, e, hg1, hH⟩ := hE h
      exact ⟨g, e, by omega, hH.of_block (keep g (by omega))⟩

end Go.Proofs.Ythcgibpiogmmdai

/-
  What the exact laws' own helpers do with lists of numbers: two are held against each other, one is marked, one is looked at for its marks.
-/
set_option linter.unusedVariables false
set_option linter.unusedSimpArgs false
namespace Go.Proofs.Ythcgibpiogmmdai
open Go.RowKit
attribute [local go_sem ↓] Go.wp_at_zero Go.wp_at_succ

set_option maxHeartbeats 800000 in
theorem eqInt64S_same (ao ao' : Option Addr) (n cap cap' : Nat) (f : Nat → Int) (hn : n ≤ 1048576) (w : World) (hr : IRow w ao n f) (hr' : IRow w ao' n f) :
    Calls Try.prog 63 #[.slice ao n cap, .slice ao' n cap'] w fun e w' => e = .returned (.bool true) ∧ Below w.heap.size w w' := by
  go_enter Try.func63, Try.ntmps63
  go_wp2
  go_loopw [5] (fun i wr => ∃ k : Nat, k ≤ n ∧ i = .int .i64 k ∧ Below w.heap.size w wr) (fun i _ => n - (intOf i).toNat)
  case atStart => exact ⟨0, Nat.zero_le _, rfl, Below.refl _ _⟩
  case round =>
    obtain ⟨k, hk, rfl, hbel⟩ := hrel
    by_cases hlt : k < n
    rotate_left
    · have hkn : k = n := by omega
      subst hkn
      go_wp2
      go_ret
      exact ⟨rfl, hbel⟩
    obtain ⟨b, o, hao, c0⟩ := (hr.below hbel (Nat.le_refl _)) k hlt
    obtain ⟨b', o', hao', d0⟩ := (hr'.below hbel (Nat.le_refl _)) k hlt
    subst hao
    subst hao'
    have hk1 : (0 : Int) ≤ (k : Int) := by omega
    have hk2 : (k : Int) < (n : Int) := by omega
    go_wp2
    go_quiet (fail)
    go_wp2
    go_roundw
    case rel => exact ⟨k + 1, by omega, by go_num, below_drewN hbel _⟩
    case measure => simp [intOf]; omega

/-- The marks: number j holds k + j. -/
def mki (k : Int) (j : Nat) : Int := k + j

set_option maxHeartbeats 1000000 in
theorem markInt64S_any (b n cap : Nat) (f : Nat → Int) (k : Int) (hk0 : 0 ≤ k) (hk1 : k ≤ 4000000) (hn : n ≤ 1048576) (w : World) (h : 0 < n → IHas w b n f) (ao : Option Addr) (hao : 0 < n → ao = some ⟨b, 0, none⟩) :
    Calls Try.prog 65 #[.slice ao n cap, .int .i64 k] w fun e w' => e = .returned (.int .i64 (k + n)) ∧ (0 < n → IHas w' b n (mki k)) ∧ w.grownBy w' (some b) := by
  go_enter Try.func65, Try.ntmps65
  go_wp2
  go_loopw [1, 5] (fun q i wr => ∃ m : Nat, m ≤ n ∧ i = .int .i64 m ∧ q = .int .i64 (k + m) ∧ (0 < n → IHas wr b n (fun j => if j < m then mki k j else f j)) ∧ w.grownBy wr (some b)) (fun _ i _ => n - (intOf i).toNat)
  case atStart => exact ⟨0, Nat.zero_le _, rfl, by simp, fun hp => (h hp).congr (fun j _ => by simp), World.grownBy.refl _ _⟩
  case round =>
    obtain ⟨m, hm, rfl, rfl, hh, hg⟩ := hrel
    by_cases hlt : m < n
    rotate_left
    · have e : m = n := by omega
      subst e
      go_wp2
      go_ret
      exact ⟨rfl, fun hp => (hh hp).congr (fun j hj => by rw [if_pos (by omega)]), hg⟩
    obtain rfl := hao (by omega)
    have HH := hh (by omega)
    have d0 := HH.cell (j := m) (by omega)
    have z0 := HH.frozen m
    have R := HH.set m (k + m)
    have S := hg.trans (gr_setCell _ b m (.int .i64 (k + m)))
    clear HH hh
    go_wp2
    go_roundw
    case rel =>
      refine ⟨m + 1, by omega, by go_num, by go_num, fun _ => R.congr (fun j hj => ?_), S⟩
      by_cases e0 : j = m
      · subst e0; simp [mki]
      simp only [if_neg e0]
      by_cases hl : j < m
      · rw [if_pos hl, if_pos (by omega)]
      · rw [if_neg hl, if_neg (by omega)]
    case measure => simp [intOf]; omega

set_option maxHeartbeats 1000000 in
theorem heldInt64S_any (b n cap : Nat) (k : Int) (hk0 : 0 ≤ k) (hk1 : k ≤ 4000000) (hn : n ≤ 1048576) (w : World) (h : 0 < n → IHas w b n (mki k)) (ao : Option Addr) (hao : 0 < n → ao = some ⟨b, 0, none⟩) :
    Calls Try.prog 69 #[.slice ao n cap, .int .i64 k] w fun e w' => e = .returned (.int .i64 (k + n)) ∧ w' = w := by
  go_enter Try.func69, Try.ntmps69
  go_wp2
  go_loop [1, 5] (fun q i => ∃ m : Nat, m ≤ n ∧ i = .int .i64 m ∧ q = .int .i64 (k + m)) (fun _ i => n - (intOf i).toNat)
  case atStart => exact ⟨0, Nat.zero_le _, rfl, by simp⟩
  case round =>
    obtain ⟨m, hm, rfl, rfl⟩ := hrel
    by_cases hlt : m < n
    rotate_left
    · have e : m = n := by omega
      subst e
      go_wp2
      go_ret
      exact ⟨rfl, rfl⟩
    obtain rfl := hao (by omega)
    have HH := h (by omega)
    have d0 : w.cell? ⟨b, m, none⟩ = some (.int .i64 (k + m)) := by
      rw [HH.cell (by omega)]; simp [mki]
    clear HH
    go_wp2
    go_round
    case rel => exact ⟨m + 1, by omega, by go_num, by go_num⟩
    case measure => simp [intOf]; omega

end Go.Proofs.Ythcgibpiogmmdai

/-
  What the reading of an argument says of its memory: a list of numbers that came in lies behind its address.
-/
set_option linter.unusedVariables false
set_option linter.unusedSimpArgs false
namespace Go.Proofs.Ythcgibpiogmmdai
open Go.ChangeShapes Go.WideShapes Go.ChangeAt Go.RowKit Go.Deep Go.Joins
attribute [local go_sem ↓] Go.wp_at_zero Go.wp_at_succ

set_option maxHeartbeats 400000 in
theorem toInt64S_any (ao : Option Addr) (n cap : Nat) (f : Nat → Int) (hn : n ≤ 1048576) (w : World) (hr : IRow w ao n f) :
    Calls Try.prog 74 #[.slice ao n cap] w fun e w' => e = .returned (.slice (some ⟨w.heap.size, 0, none⟩) n n) ∧ IHas w' w.heap.size n f ∧ Below w.heap.size w w' := by
  have hmk := make_ints n hn
  go_enter Try.func74, Try.ntmps74
  go_wp2
  clear hmk
  go_loopw [4] (fun i wr => ∃ k : Nat, k ≤ n ∧ i = .int .i64 k ∧ IHas wr w.heap.size n (fun j => if j < k then f j else 0) ∧ Below w.heap.size w wr) (fun i _ => n - (intOf i).toNat)
  case atStart => exact ⟨0, Nat.zero_le _, rfl, made_ints w n, (Below.refl _ _).alloc (Nat.le_refl _) _⟩
  case round =>
    obtain ⟨k, hk, rfl, hown, hbel⟩ := hrel
    by_cases hlt : k < n
    · obtain ⟨b, o, hao, c0⟩ := (hr.below hbel (Nat.le_refl _)) k hlt
      subst hao
      have d0 := hown.cell hlt
      have z0 := hown.frozen k
      have R := hown.set k (f k)
      have S := hbel.setCell (p := ⟨w.heap.size, k, none⟩) (Nat.le_refl _) (.int .i64 (f k))
      clear hown
      go_wp2
      go_roundw
      case rel =>
        refine ⟨k + 1, by omega, by go_num, R.congr (fun j hj => ?_), S⟩
        by_cases e : j = k
        · subst e; simp
        · simp only [if_neg e]
          by_cases hl : j < k
          · rw [if_pos hl, if_pos (by omega)]
          · rw [if_neg hl, if_neg (by omega)]
      case measure => simp [intOf]; omega
    · have hkn : k = n := by omega
      subst hkn
      go_wp2
      go_ret
      exact ⟨rfl, hown.congr (fun j hj => by simp [hj]), hbel⟩

set_option maxRecDepth 100000 in
theorem open_nums {H : Type} {enc : TypeId × Value → H} {w : World} {base : Nat} {spare : Nat → Bool} {held : Bool} {fuel : Nat} {cs : List Value} {x : DataW H × List MemPlace}
    (h : DataW.trod enc Try.prog w base spare held fuel 38 cs = some x) :
    ∃ (ao : Option Addr) (n cap : Nat) (P : Nat → Int), cs = [.slice ao n cap] ∧ n ≤ maxLen ∧ IRow w ao n P ∧ ∀ k, k < n → (Lit.int .i64 (P k)).wf = true := by
  rcases open_slice Try.underlying38 h with ⟨rfl, _⟩ | ⟨a, len, cap, m, n, D, Pl, rfl, hb, hl, hm, hmm, _, hx⟩
  · exact ⟨none, 0, 0, fun _ => 0, rfl, Nat.zero_le _, fun k hk => by omega, fun k hk => by omega⟩
  have hlm : len ≤ m := by rw [hmm]; split <;> omega
  have each : ∀ i, i < len → ∃ q : Int, w.cell? (a.add i) = some (.int .i64 q) ∧ (Lit.int .i64 q).wf = true := by
    intro i hi
    obtain ⟨cs', h1, h2⟩ := hx i (by omega)
    rw [Try.cellsInt] at h1
    obtain ⟨_, hlen, hcell⟩ := World.cells?_some h1
    match cs', hlen with
    | [v0], _ =>
      obtain ⟨q0, r0, _, f0⟩ := DataW.trod_int Try.underlying2 h2
      have e0 := hcell 0 (by omega)
      rw [add_add] at e0
      simp at r0
      subst r0
      exact ⟨q0, by simpa using e0, f0⟩
  obtain ⟨f, hf⟩ := choose_lt each
  refine ⟨some a, len, cap, f, rfl, by omega, fun k hk => ?_, fun k hk => (hf k hk).2⟩
  obtain ⟨b, o, spot⟩ := a
  have hspot : spot = none := by
    have := World.cell?_spot (hf 0 (by omega)).1
    simpa [Addr.add] using this
  subst hspot
  have := (hf k hk).1
  rw [Addr.add_mid] at this
  exact ⟨b, o, rfl, this⟩

end Go.Proofs.Ythcgibpiogmmdai

/-
  What the exact laws' own helpers do with lists of edges: copies, the size that is counted, two held against each other; what the reading of an argument says. For every list of at most 2^20 edges.
-/
set_option linter.unusedVariables false
set_option linter.unusedSimpArgs false
namespace Go.Proofs.Ythcgibpiogmmdai
open Go.ChangeShapes Go.WideShapes Go.ChangeAt Go.RowKit Go.Deep Go.Joins

theorem made_edges (w : World) (n : Nat) (f : Nat → Int) : EHas (w.alloc (.cells (madeCells #[.int .i64 0, .int .i64 0] (n * 2)) 110)) w.heap.size n (upto f 0) := by
  refine EHas.of_row ⟨_, Go.Deep.blk_alloc_new _ _, size_madeCells _ _, fun i hi => ?_⟩
  have h3 : i % 2 = 0 ∨ i % 2 = 1 := by omega
  simp [madeCells, hi, upto]
  rcases h3 with h | h <;> simp [h]

theorem make_edges (n : Nat) (hn : n ≤ 1048576) (w : World) :
    (Instr.makeSlice 39 (.int .i64 (n : Int)) (.int .i64 (n : Int))).run Try.prog w = .ok (.slice (some ⟨w.heap.size, 0, none⟩) n n) (w.alloc (.cells (madeCells #[.int .i64 0, .int .i64 0] (n * 2)) 110)) := by
  obtain ⟨i, hi, hz0, hz1, hz2⟩ := info_parts Try.infoEdge
  have hr := run_make (P := Try.prog) w 39 110 i _ Try.underlying39 hi hz0 .i64 .i64 n n (by omega) (Int.le_refl _) (by rw [hz2]; omega) (by omega)
  simpa [hz1, Value.cells] using hr

theorem toEdge_any (f t : Int) (w : World) :
    Calls Try.prog 92 #[.agg #[.int .i64 f, .int .i64 t]] w fun e w' => e = .returned (.agg #[.int .i64 f, .int .i64 t]) ∧ Below w.heap.size w w' := by
  go_enter Try.func92, Try.ntmps92
  go_wp2
  simp [bodyPost, results, Try.results92, go_sem]
  exact (((Below.refl _ _).alloc (Nat.le_refl _) _).alloc (by simp) _).alloc (by simp; omega) _

theorem upto_two {L H : Nat → Int} {k j : Nat} : (if j = k * 2 + 1 then H k else if j = k * 2 then L k else upto (er L H) (k * 2) j) = upto (er L H) ((k + 1) * 2) j := by
  by_cases e1 : j = k * 2 + 1
  · subst e1; rw [if_pos rfl]; unfold upto; rw [if_pos (by omega), er1]
  by_cases e0 : j = k * 2
  · subst e0; rw [if_neg (by omega), if_pos rfl]; unfold upto; rw [if_pos (by omega), er0]
  rw [if_neg e1, if_neg e0]; unfold upto
  by_cases hl : j < k * 2
  · rw [if_pos hl, if_pos (by omega)]
  · rw [if_neg hl, if_neg (by omega)]

set_option maxHeartbeats 400000 in
theorem toEdgeS_any (ao : Option Addr) (n cap : Nat) (L H : Nat → Int) (hn : n ≤ 1048576) (w : World) (hr : ERow w ao n L H) :
    Calls Try.prog 75 #[.slice ao n cap] w fun e w' => e = .returned (.slice (some ⟨w.heap.size, 0, none⟩) n n) ∧ EHas w' w.heap.size n (er L H) ∧ Below w.heap.size w w' := by
  have hmk := make_edges n hn
  go_enter Try.func75, Try.ntmps75
  go_wp2
  clear hmk
  go_loopw [4] (fun i wr => ∃ k : Nat, k ≤ n ∧ i = .int .i64 k ∧ EHas wr w.heap.size n (upto (er L H) (k * 2)) ∧ Below w.heap.size w wr) (fun i _ => n - (intOf i).toNat)
  case atStart => exact ⟨0, Nat.zero_le _, rfl, made_edges w n _, (Below.refl _ _).alloc (Nat.le_refl _) _⟩
  case round =>
    obtain ⟨k, hk, rfl, hown, hbel⟩ := hrel
    by_cases hlt : k < n
    · obtain ⟨b, o, hao, c0, c1⟩ := (hr.below hbel (Nat.le_refl _)) k hlt
      subst hao
      go_wp2_with (go_at_call 92; refine (toEdge_any (L k) (H k) _).mono ?_; rintro e w1 ⟨rfl, hb1⟩; have d0 := EHas.cell (hown.next hb1) (j := k * 2) (by omega); have d1 := EHas.cell (hown.next hb1) (j := k * 2 + 1) (by omega); have z0 := EHas.frozen (hown.next hb1) (k * 2); have z1 := EHas.frozen (hown.next hb1) (k * 2 + 1))
      have R := (((hown.next hb1).set (k * 2) (L k)).set (k * 2 + 1) (H k)).congr (fun j _ => upto_two)
      have S := hbel.trans (hb1.mono hbel.size)
      clear d0 d1 z0 z1 hown hb1 hbel
      go_roundw
      case rel => exact ⟨k + 1, by omega, by go_num, R, (S.setCell (Nat.le_refl _) _).setCell (Nat.le_refl _) _⟩
      case measure => simp [intOf]; omega
    · have hkn : k = n := by omega
      subst hkn
      go_wp2
      go_ret
      exact ⟨rfl, hown.congr (fun j hj => by simp [upto, hj]), hbel⟩

theorem szEdgeS_in (ao : Option Addr) (n cap : Nat) (l : Int) (h0 : (n : Int) ≤ l) (hl : l ≤ 1048576) (w : World) :
    Calls Try.prog 72 #[.slice ao n cap, .int .i64 l] w fun e w' => e = .returned (.int .i64 (l - n)) ∧ w' = w := by
  go_enter Try.func72, Try.ntmps72
  go_wp2
  go_ret
  exact ⟨rfl, rfl⟩
theorem szEdgeS_out (ao : Option Addr) (n cap : Nat) (l : Int) (h0 : l < (n : Int)) (h1 : 0 ≤ l) (hl : l ≤ 1048576) (hn : n ≤ 9223372036854775807) (w : World) :
    Calls Try.prog 72 #[.slice ao n cap, .int .i64 l] w fun e w' => e = .returned (.int .i64 (-1)) ∧ w' = w := by
  go_enter Try.func72, Try.ntmps72
  go_wp2
  go_ret
  exact ⟨rfl, rfl⟩

theorem Try.cellsLEdge : Try.prog.cellsOf 131 = 2 := by kernel_rfl
set_option maxRecDepth 100000 in
theorem open_edges {H : Type} {enc : TypeId × Value → H} {w : World} {base : Nat} {spare : Nat → Bool} {held : Bool} {fuel : Nat} {cs : List Value} {x : DataW H × List MemPlace}
    (h : DataW.trod enc Try.prog w base spare held fuel 53 cs = some x) :
    ∃ (ao : Option Addr) (n cap : Nat) (F T : Nat → Int), cs = [.slice ao n cap] ∧ n ≤ maxLen ∧ ERow w ao n F T ∧ (∀ k, k < n → (Lit.int .i64 (F k)).wf = true) ∧ ∀ k, k < n → (Lit.int .i64 (T k)).wf = true := by
  rcases open_slice Try.underlying53 h with ⟨rfl, _⟩ | ⟨a, len, cap, m, n, D, Pl, rfl, hb, hl, hm, hmm, _, hx⟩
  · exact ⟨none, 0, 0, fun _ => 0, fun _ => 0, rfl, Nat.zero_le _, fun k hk => by omega, fun k hk => by omega, fun k hk => by omega⟩
  have hlm : len ≤ m := by rw [hmm]; split <;> omega
  have each : ∀ i, i < len → ∃ q : Int × Int, w.cell? (a.add (i * 2)) = some (.int .i64 q.1) ∧ w.cell? (a.add (i * 2 + 1)) = some (.int .i64 q.2) ∧ (Lit.int .i64 q.1).wf = true ∧ (Lit.int .i64 q.2).wf = true := by
    intro i hi
    obtain ⟨cs', h1, h2⟩ := hx i (by omega)
    rw [Try.cellsLEdge] at h1
    obtain ⟨_, hlen, hcell⟩ := World.cells?_some h1
    obtain ⟨y0, y1, n', _, _, g0, g1⟩ := trod_struct2 Try.underlying131 h2
    match cs', hlen with
    | [v0, v1], _ =>
      simp [Try.cellsInt] at g0 g1
      obtain ⟨q0, r0, _, f0⟩ := DataW.trod_int Try.underlying2 g0
      obtain ⟨q1, r1, _, f1⟩ := DataW.trod_int Try.underlying2 g1
      have e0 := hcell 0 (by omega)
      have e1 := hcell 1 (by omega)
      rw [add_add] at e0 e1
      simp at r0 r1
      subst r0 r1
      exact ⟨(q0, q1), by simpa using e0, by simpa using e1, f0, f1⟩
  obtain ⟨f, hf⟩ := choose_lt each
  refine ⟨some a, len, cap, fun i => (f i).1, fun i => (f i).2, rfl, by omega, fun k hk => ?_, fun k hk => (hf k hk).2.2.1, fun k hk => (hf k hk).2.2.2⟩
  obtain ⟨b, o, spot⟩ := a
  have hspot : spot = none := by
    have := World.cell?_spot (hf 0 (by omega)).1
    simpa [Addr.add] using this
  subst hspot
  have := hf k hk
  rw [Addr.add_mid, Addr.add_mid] at this
  exact ⟨b, o, rfl, this.1, by simpa [Nat.add_assoc] using this.2.1⟩

end Go.Proofs.Ythcgibpiogmmdai

/-
  The laws' own comparison of two lists of edges. For every list of at most 2^20 edges.
-/
set_option linter.unusedVariables false
set_option linter.unusedSimpArgs false
namespace Go.Proofs.Ythcgibpiogmmdai
open Go.RowKit
attribute [local go_sem ↓] Go.wp_at_zero Go.wp_at_succ
theorem eqEdge_same (f t : Int) (w : World) :
    Calls Try.prog 90 #[.agg #[.int .i64 f, .int .i64 t], .agg #[.int .i64 f, .int .i64 t]] w fun e w' => e = .returned (.bool true) ∧ Below w.heap.size w w' := by
  go_enter Try.func90, Try.ntmps90
  go_wp2
  go_ret
  exact ⟨rfl, ((Below.refl _ _).alloc (Nat.le_refl _) _).alloc (by simp) _⟩

set_option maxHeartbeats 800000 in
theorem eqEdgeS_same (ao ao' : Option Addr) (n cap cap' : Nat) (L H : Nat → Int) (hn : n ≤ 1048576) (w : World) (hr : ERow w ao n L H) (hr' : ERow w ao' n L H) :
    Calls Try.prog 64 #[.slice ao n cap, .slice ao' n cap'] w fun e w' => e = .returned (.bool true) ∧ Below w.heap.size w w' := by
  go_enter Try.func64, Try.ntmps64
  go_wp2
  go_loopw [5] (fun i wr => ∃ k : Nat, k ≤ n ∧ i = .int .i64 k ∧ Below w.heap.size w wr) (fun i _ => n - (intOf i).toNat)
  case atStart => exact ⟨0, Nat.zero_le _, rfl, Below.refl _ _⟩
  case round =>
    obtain ⟨k, hk, rfl, hbel⟩ := hrel
    by_cases hlt : k < n
    rotate_left
    · have hkn : k = n := by omega
      subst hkn
      go_wp2
      go_ret
      exact ⟨rfl, hbel⟩
    obtain ⟨b, o, hao, c0, c1⟩ := (hr.below hbel (Nat.le_refl _)) k hlt
    obtain ⟨b', o', hao', d0, d1⟩ := (hr'.below hbel (Nat.le_refl _)) k hlt
    subst hao
    subst hao'
    have hk1 : (0 : Int) ≤ (k : Int) := by omega
    have hk2 : (k : Int) < (n : Int) := by omega
    go_wp2
    go_region_held3 (fun w' => w'.cell? ⟨b, o + k * 2, none⟩ = some (.int .i64 (L k)) ∧ w'.cell? ⟨b, o + k * 2 + 1, none⟩ = some (.int .i64 (H k)) ∧ w'.cell? ⟨b', o' + k * 2, none⟩ = some (.int .i64 (L k)) ∧ w'.cell? ⟨b', o' + k * 2 + 1, none⟩ = some (.int .i64 (H k)))
        (first | (go_split_ands; refine ⟨?_, ?_, ?_, ?_⟩ <;> exact keep_cell ‹_› (Nat.le_refl _) (by assumption)) | go_keep)
        (first | (go_at_call 90; refine (eqEdge_same _ _ _).mono ?_; rintro e w2 ⟨rfl, hb2⟩))
    go_wp2
    go_roundw
    case rel => exact ⟨k + 1, by omega, by go_num, below_next hbel.drew (Nat.le_refl _) hb2⟩
    case measure => simp [intOf]; omega

end Go.Proofs.Ythcgibpiogmmdai

/-
  The exact laws' marks in edges of the law's own.
-/
set_option linter.unusedVariables false
set_option linter.unusedSimpArgs false
namespace Go.Proofs.Ythcgibpiogmmdai
open Go.RowKit

/-- The marks: cell j holds k + j. -/
def mke (k : Int) (j : Nat) : Int := k + j

set_option maxHeartbeats 1000000 in
theorem markEdgeS_any (b n cap : Nat) (f : Nat → Int) (k : Int) (hk0 : 0 ≤ k) (hk1 : k ≤ 4000000) (hn : n ≤ 1048576) (w : World) (h : 0 < n → EHas w b n f) (ao : Option Addr) (hao : 0 < n → ao = some ⟨b, 0, none⟩) :
    Calls Try.prog 66 #[.slice ao n cap, .int .i64 k] w fun e w' => e = .returned (.int .i64 (k + 2 * n)) ∧ (0 < n → EHas w' b n (mke k)) ∧ w.grownBy w' (some b) := by
  go_enter Try.func66, Try.ntmps66
  go_wp2
  go_loopw [1, 5] (fun q i wr => ∃ m : Nat, m ≤ n ∧ i = .int .i64 m ∧ q = .int .i64 (k + 2 * m) ∧ (0 < n → EHas wr b n (fun j => if j < 2 * m then mke k j else f j)) ∧ w.grownBy wr (some b)) (fun _ i _ => n - (intOf i).toNat)
  case atStart => exact ⟨0, Nat.zero_le _, rfl, by simp, fun hp => (h hp).congr (fun j _ => by simp), World.grownBy.refl _ _⟩
  case round =>
    obtain ⟨m, hm, rfl, rfl, hh, hg⟩ := hrel
    by_cases hlt : m < n
    rotate_left
    · have e : m = n := by omega
      subst e
      go_wp2
      go_ret
      exact ⟨rfl, fun hp => (hh hp).congr (fun j hj => by rw [if_pos (by omega)]), hg⟩
    obtain rfl := hao (by omega)
    have HH := hh (by omega)
    have d0 := HH.cell (j := m * 2) (by omega)
    have d1 := HH.cell (j := m * 2 + 1) (by omega)
    have z0 := HH.frozen (m * 2)
    have z1 := HH.frozen (m * 2 + 1)
    have R := (HH.set (m * 2) (k + 2 * m)).set (m * 2 + 1) (k + 2 * m + 1)
    have S := (hg.trans (gr_setCell _ b (m * 2) (.int .i64 (k + 2 * m)))).trans (gr_setCell _ b (m * 2 + 1) (.int .i64 (k + 2 * m + 1)))
    clear HH hh
    go_wp2
    go_roundw
    case rel =>
      refine ⟨m + 1, by omega, by go_num, by go_num, fun _ => R.congr (fun j hj => ?_), S⟩
      by_cases e1 : j = m * 2 + 1
      · subst e1; simp [mke]; omega
      by_cases e0 : j = m * 2
      · subst e0; simp [mke]; omega
      simp only [if_neg e1, if_neg e0]
      by_cases hl : j < 2 * m
      · rw [if_pos hl, if_pos (by omega)]
      · rw [if_neg hl, if_neg (by omega)]
    case measure => simp [intOf]; omega

end Go.Proofs.Ythcgibpiogmmdai
