/-
  Helpers: FillI, FillW, Hier.
-/
import Derived.Test.YthmpliljffmmcaaGreatDoorPack1
import Derived.Test.YthmpliljffmmcaaGreatDoorPack7
import Derived.Test.YthmpliljffmmcaaGreatDoorPack4
import Derived.Test.YthmpliljffmmcaaGreatDoorPack8
import Derived.Test.YthmpliljffmmcaaGreatDoorPack5
set_option linter.unusedVariables false
set_option linter.unusedSimpArgs false
namespace Go.Proofs.YthmpliljffmmcaaGreatDoor
section
open Go.RowKit Go.Shelf
attribute [local go_sem] Oper.semAt_some
theorem below_grownN {w w' : World} {row : Option Nat} (h : Below w.heap.size w w') : w.grownBy w' row := ⟨h.os, h.tape, h.output, h.size, fun k hk _ => h.block k hk⟩
structure FI (w : World) (gv : Value) (p eb kb rb bm capR : Nat) (B : Nat → Nat → Bool) (gone : Nat → Bool) (R : Nat → Int) (g c : Nat) (l : List Pr) (W : World) : Prop where
  bel : Below (w.heap.size + 1) (w.alloc (.cells #[.int .i64 (p : Int), gv] 26)) W
  ebx : Boxed W eb 28 (.slice (some ⟨g, 0, none⟩) l.length c)
  kbx : Boxed W kb 27 (.slice (some ⟨rb, 0, none⟩) p capR)
  rks : IHas W rb p R
  mesh : MeshAt W bm (p : Int) B gone
  own : EOwn W (w.heap.size + 1) g c l
  ne : ((g ≠ eb ∧ g ≠ kb ∧ g ≠ rb ∧ g ≠ bm) ∧ eb ≠ kb ∧ eb ≠ rb ∧ eb ≠ bm) ∧ (bm ≠ kb ∧ bm ≠ rb ∧ kb ≠ rb) ∧ w.heap.size + 1 ≤ eb ∧ w.heap.size + 1 ≤ kb ∧ w.heap.size + 1 ≤ rb ∧ w.heap.size + 1 ≤ bm
section
variable {w : World} {gv : Value} {p eb kb rb bm capR : Nat} {B : Nat → Nat → Bool} {gone : Nat → Bool} {R : Nat → Int} {g c : Nat} {l : List Pr} {W W' : World}
theorem FI.kept (h : FI w gv p eb kb rb bm capR B gone R g c l W) {row : Option Nat} (hg : W.grownBy W' row) (hr : ∀ r, row = some r → w.heap.size + 1 ≤ r ∧ r ≠ eb ∧ r ≠ kb ∧ r ≠ rb ∧ r ≠ bm ∧ r ≠ g) : FI w gv p eb kb rb bm capR B gone R g c l W' := by
  have hz := h.bel.size
  simp at hz
  have key : ∀ x, (x = eb ∨ x = kb ∨ x = rb ∨ x = bm ∨ x = g) → some x ≠ row := fun x hx e => by
    have := hr x e.symm
    omega
  refine ⟨?_, h.ebx.kept hg (key _ (by simp)), h.kbx.kept hg (key _ (by simp)), h.rks.grown hg (key _ (by simp)), VHas.grown h.mesh hg (key _ (by simp)), h.own.grown hg (key _ (by simp)), h.ne⟩
  refine h.bel.trans ⟨hg.os, hg.tape, hg.output, hg.size, fun k hk => hg.block k (by omega) (fun e => ?_)⟩
  have := hr k e.symm
  omega
theorem FI.next (h : FI w gv p eb kb rb bm capR B gone R g c l W) (hb : Below W.heap.size W W') : FI w gv p eb kb rb bm capR B gone R g c l W' := h.kept (below_grownN (row := none) hb) (fun r e => by cases e)
theorem FI.taken (h : FI w gv p eb kb rb bm capR B gone R g c l W) {B' : Nat → Nat → Bool} {gone' : Nat → Bool} (hg : W.grownBy W' (some bm)) (hm : MeshAt W' bm (p : Int) B' gone') : FI w gv p eb kb rb bm capR B' gone' R g c l W' := by
  have hz := h.bel.size
  have hn := h.ne
  simp at hz
  exact ⟨h.bel.trans (gr_below hg (by omega) (by omega)), h.ebx.kept hg (by simp; omega), h.kbx.kept hg (by simp; omega), h.rks.grown hg (by simp; omega), hm, h.own.grown hg (by simp; omega), hn⟩
theorem FI.longer (h : FI w gv p eb kb rb bm capR B gone R g c l W) (hg : W.grownBy W' (some g)) {g' c' : Nat} {l' : List Pr} (ho : EOwn W' (w.heap.size + 1) g' c' l') (hat : g' = g ∨ g' = W.heap.size) :
    FI w gv p eb kb rb bm capR B gone R g' c' l' (W'.setCell ⟨eb, 0, none⟩ (.slice (some ⟨g', 0, none⟩) l'.length c')) := by
  have hz := h.bel.size
  have hn := h.ne
  have h1 := h.own.base
  have h2 := h.ebx.lt
  have h3 := h.kbx.lt
  have h4 := h.rks.lt
  have h5 := VHas.lt h.mesh
  simp at hz
  have hs := gr_setCell W' eb 0 (.slice (some ⟨g', 0, none⟩) l'.length c')
  have he := h.ebx.kept hg (by simp; omega)
  have hz' := hg.size
  refine ⟨(h.bel.trans (gr_below hg (by omega) (by omega))).trans (gr_below hs (by omega) (by omega)), he.set _, (h.kbx.kept hg (by simp; omega)).kept hs (by simp; omega), (h.rks.grown hg (by simp; omega)).grown hs (by simp; omega), VHas.grown (VHas.grown h.mesh hg (by simp; omega)) hs (by simp; omega), ho.grown hs (by simp; omega), by omega⟩
theorem FI.other (h : FI w gv p eb kb rb bm capR B gone R g c l W) {row : Option Nat} (hg : W.grownBy W' row) (hr : ∀ r, row = some r → w.heap.size + 1 ≤ r ∧ ∃ o : Obj, W.heap[r]? = some o ∧ o.isCells = false) : FI w gv p eb kb rb bm capR B gone R g c l W' := by
  refine h.kept hg (fun r e => ?_)
  obtain ⟨h1, o, h2, h3⟩ := hr r e
  have key : ∀ k cur t m, W.heap[k]? = some (.cells cur t m) → r ≠ k := fun k cur t m hk e => by
    subst e
    rw [h2] at hk
    simp at hk
    subst hk
    cases h3
  obtain ⟨c1, e1, _⟩ := h.rks
  obtain ⟨c2, e2, _⟩ := h.mesh
  obtain ⟨c3, e3, _⟩ := h.own.has
  exact ⟨h1, key _ _ _ _ h.ebx, key _ _ _ _ h.kbx, key _ _ _ _ e1, key _ _ _ _ e2, key _ _ _ _ e3⟩
end
theorem allU_len {B : Nat → Nat → Bool} {P : Nat → Int} {p : Nat} (hp : p ≤ 24) : ∀ R, (allU B P p R).length ≤ 24 * R
  | 0 => Nat.le_refl _
  | R + 1 => by
    show (allU B P p R ++ rowU B P p R p).length ≤ _
    have h1 := allU_len (B := B) (P := P) hp R
    have h2 := cntB_le (sqO B P R (P R).toNat) p
    have h3 : (rowU B P p R p).length = cntB (sqO B P R (P R).toNat) p := by unfold rowU; rw [List.length_map, visF_len]
    rw [List.length_append, h3]; omega
theorem Marked.grown {W W' : World} {Ds : List Nat} {row : Option Nat} (h : Marked W Ds) (hg : W.grownBy W' row) (hr : ∀ D ∈ Ds, row = some D → False) : Marked W' Ds :=
  ⟨h.1, fun D hD => (hg.block D (Array.getElem?_eq_some_iff.1 (h.2 D hD)).1 (fun e => hr D hD e.symm)).trans (h.2 D hD)⟩
theorem keeps_cells {B0 b : Nat} {W W' : World} (hg : W.grownBy W' (some b)) (hc : ∃ cur t m, W.heap[b]? = some (.cells cur t m)) : KeepsFrom B0 W W' :=
  ⟨hg.size, fun k o _ hk ho => (hg.block k (Array.getElem?_eq_some_iff.1 hk).1 (fun e => by
    obtain ⟨cur, t, m, hc⟩ := hc
    simp at e
    rw [e, hc] at hk
    simp at hk
    subst hk
    cases ho)).trans hk⟩
theorem keeps_below {B0 : Nat} {W W' : World} (hb : Below W.heap.size W W') : KeepsFrom B0 W W' := ⟨hb.size, fun k o _ hk _ => (hb.block k (Array.getElem?_eq_some_iff.1 hk).1).trans hk⟩
def FR (w : World) (gv : Value) (p eb kb rb bm capR : Nat) (B : Nat → Nat → Bool) (gone : Nat → Bool) (R : Nat → Int) (l0 : List Pr) (r a s0 : Nat) (Ds : List Nat) (pre : List Nat) (W : World) : Prop :=
  (∃ g c, FI w gv p eb kb rb bm capR B gone R g c (l0 ++ pre.map (fun q => ((r : Int), R q))) W ∧ g ≠ s0 ∧ g ≠ s0 + 1 ∧ g ≠ s0 + 1 + 1) ∧
    Boxed W s0 3 (.int .i64 (r : Int)) ∧ Boxed W (s0 + 1) 116 (.pointer (some ⟨bm, 0, none⟩)) ∧ Boxed W (s0 + 1 + 1) 2 (.int .i64 (a : Int)) ∧ Marked W Ds
theorem FR.own {w : World} {gv : Value} {p eb kb rb bm capR : Nat} {B : Nat → Nat → Bool} {gone : Nat → Bool} {R : Nat → Int} {l0 : List Pr} {r a s0 : Nat} {Ds : List Nat} {B0 : Nat} (hB : w.heap.size + 1 ≤ B0) (hD : ∀ D ∈ Ds, D < B0) : OwnFrom B0 (FR w gv p eb kb rb bm capR B gone R l0 r a s0 Ds) := by
  rintro pre X Y row ⟨⟨g, c, h1, h2⟩, h3, h4, h5, h6⟩ hg hr
  have key : ∀ k cur t m, X.heap[k]? = some (.cells cur t m) → some k ≠ row := fun k cur t m hk e => by
    obtain ⟨_, o, h2, h3⟩ := hr k e.symm
    rw [h2] at hk
    simp at hk
    subst hk
    cases h3
  refine ⟨⟨g, c, h1.other hg (fun j e => ⟨by have := (hr j e).1; omega, (hr j e).2⟩), h2⟩, h3.kept hg (key _ _ _ _ h3), h4.kept hg (key _ _ _ _ h4), h5.kept hg (key _ _ _ _ h5), h6.grown hg (fun D hD' e => ?_)⟩
  have := (hr D e).1
  have := hD D hD'
  omega
set_option maxRecDepth 100000 in
set_option maxHeartbeats 8000000 in
theorem implFill_walk (p : Nat) (ao : Option Addr) (n cap : Nat) (F T G : Nat → Int) (po : Option Addr) (pcap : Nat) (P : Nat → Int) (hp1 : 1 ≤ p) (hp : p ≤ 24) (hn : n ≤ 100) (hF : ∀ k, k < n → 0 ≤ F k ∧ F k < (p : Int)) (hT : ∀ k, k < n → 0 ≤ T k ∧ T k < (p : Int)) (hFT : ∀ k, k < n → F k ≠ T k) (hok : ordB (p : Int) n F T G p P = true) (w : World) (hr : Row w ao n F T G) (hq : IRow w po p P) :
    Calls Tryz.prog 60 #[.agg #[.int .i64 (p : Int), .slice ao n cap], .slice po p pcap] w fun e w' => ∃ g c, e = .returned (.slice (some ⟨g, 0, none⟩) (allS (nbA F T n) P p p).length c) ∧ (allS (nbA F T n) P p p).length ≤ c ∧ w.heap.size ≤ g ∧ ELies w' g (allS (nbA F T n) P p p) ∧ Below w.heap.size w w' := by
  have hfair : Fair (nbA F T n) := fair_nbA n (fun k hk => by have := hF k hk; have := hT k hk; have := hFT k hk; omega)
  have hwi : Within p (nbA F T n) := within_nbA n (fun k hk => by have := hF k hk; have := hT k hk; omega)
  have hmo := fun W hr' => meshOf_any p ao n cap F T G hp hn hF hT hFT W hr'
  generalize nbA F T n = B at hfair hwi hmo ⊢
  have he : eachB p P p = true := by simp [ordB, okR] at hok; exact hok.2.2.2
  have HMO : Hid (∀ W, Row W ao n F T G → Calls Tryz.prog 79 #[.agg #[.int .i64 (p : Int), .slice ao n cap]] W fun e w' => ∃ bm, e = .returned (.pointer (some ⟨bm, 0, none⟩)) ∧ W.heap.size ≤ bm ∧ MeshAt w' bm (p : Int) B (fun _ => false) ∧ Below W.heap.size W w') := hmo
  clear hF hT hFT hmo
  have hL : lenR p P = p := by simp [lenR, okR, he]; omega
  refine (callsIn_wide (n := 8)).1 ?_
  refine callsIn_of_wp_marks Tryz.func60 rfl trivial ?_ rfl
  simp only [Tryz.ntmps60, List.size_toArray, List.length_cons, List.length_nil, Nat.reduceAdd, Nat.reduceSub, Array.replicate_succ, Array.replicate_zero, List.push_toArray, List.append_toArray, List.nil_append, List.cons_append]
  gi_wp2_with fail
  refine ⟨trivial, ?_⟩
  have hA0 : Below (w.heap.size + 1) (w.alloc (.cells #[.int .i64 (p : Int), .slice ao n cap] 26)) (((w.alloc (.cells #[.int .i64 (p : Int), .slice ao n cap] 26)).alloc (.cells #[] 94)).alloc (.cells #[.slice (some ⟨w.heap.size + 1, 0, none⟩) 0 0] 28)) := ((Below.refl _ _).alloc (by simp) _).alloc (by simp) _
  have hE0 : EOwn (((w.alloc (.cells #[.int .i64 (p : Int), .slice ao n cap] 26)).alloc (.cells #[] 94)).alloc (.cells #[.slice (some ⟨w.heap.size + 1, 0, none⟩) 0 0] 28)) (w.heap.size + 1) (w.heap.size + 1) 0 [] := by
    have := EOwn.empty (w.alloc (.cells #[.int .i64 (p : Int), .slice ao n cap] 26)) (base := w.heap.size + 1) (by simp)
    simp only [World.size_alloc] at this
    exact this.next ((Below.refl _ _).alloc nl _)
  have hX0 : Boxed (((w.alloc (.cells #[.int .i64 (p : Int), .slice ao n cap] 26)).alloc (.cells #[] 94)).alloc (.cells #[.slice (some ⟨w.heap.size + 1, 0, none⟩) 0 0] 28)) (w.heap.size + 1 + 1) 28 (.slice (some ⟨w.heap.size + 1, 0, none⟩) 0 0) := by
    have := Boxed.new ((w.alloc (.cells #[.int .i64 (p : Int), .slice ao n cap] 26)).alloc (.cells #[] 94)) 28 (.slice (some ⟨w.heap.size + 1, 0, none⟩) 0 0)
    simp only [World.size_alloc] at this
    exact this
  refine (callsIn_wide.2 (implOrderOk_any (p : Int) ao n cap F T G po p pcap P (by omega) (by omega) _ ((hr.alloc _).below hA0 (by simp)) ((hq.alloc _).below hA0 (by simp)))).mono ?_
  rintro e w1 ⟨rfl, hb1⟩
  have hA1 := below_next hA0 (by simp) hb1
  have hE1 := hE0.next hb1
  have hX1 := hX0.kept (below_grownN (row := none) hb1) (by simp)
  clear hA0 hE0 hX0 hb1
  rw [hok]
  obtain ⟨x0, x1, xs⟩ := box2 hA1
  gi_wp2_with fail
  refine ⟨trivial, ?_⟩
  refine (callsIn_wide.2 (implRanks_any po p pcap P (by omega) _ ((hq.alloc _).below hA1 (by simp)))).mono ?_
  rintro e w2 ⟨aoR, capR, rfl, hR, hb2⟩
  rw [hL] at hR ⊢
  obtain ⟨rb, rfl, hrb, hR2⟩ := hR (by omega)
  have hA2 := below_next hA1 (by simp) hb2
  have hE2 := hE1.next hb2
  have hX2 := hX1.kept (below_grownN (row := none) hb2) (by simp)
  have hel := hE1.lt
  have hxl := hX1.lt
  clear hA1 hE1 hX1 hR x0 x1
  obtain ⟨x0, x1, xs2⟩ := box2 hA2
  gi_wp2_with fail
  refine ⟨trivial, ?_⟩
  have hal := (Below.refl w2.heap.size w2).alloc nl (.cells #[.slice (some ⟨rb, 0, none⟩) p capR] 27)
  have hA3 := below_next hA2 (by simp) hal
  have hK3 := Boxed.new w2 27 (.slice (some ⟨rb, 0, none⟩) p capR)
  refine (callsIn_wide.2 (HMO.out _ ((hr.alloc _).below hA3 (by simp)))).mono ?_
  rintro e w4 ⟨bm, rfl, hbm, hM4, hb4⟩
  have hml := VHas.lt hM4
  have hrl := hR2.lt
  have hsz2 := hb2.size
  have hI4 : FI w (.slice ao n cap) p (w.heap.size + 1 + 1) w2.heap.size rb bm capR B (fun _ => false) (rk P (-1) p) (w.heap.size + 1) 0 [] w4 := by
    refine ⟨below_next hA3 (by simp) hb4, ?_, ?_, ?_, hM4, (hE2.next hal).next hb4, ?_⟩
    · exact (hX2.alloc _).kept (below_grownN (row := none) hb4) (by simp)
    · exact hK3.kept (below_grownN (row := none) hb4) (by simp)
    · exact (hR2.below hal hrl).below hb4 (by simp; omega)
    · simp at hbm
      omega
  simp only [World.size_alloc] at hbm
  clear hA2 hA3 hE2 hX2 hK3 hR2 hM4 hb4 hb2 hal x0 x1
  generalize w2.heap.size = kb at hI4 hbm hrl ⊢
  gi_wp2_with fail
  refine wpIn_loop (fun a' w' => ∃ (r g c : Nat) (gone : Nat → Bool) (Ds : List Nat) (u8 u9 u24 u25 u26 u27 u28 u29 u30 u41 u42 u43 u44 : Value), (r ≤ p ∧ Marked w' Ds ∧ (∀ D ∈ Ds, w.heap.size + 1 ≤ D) ∧ FI w (.slice ao n cap) p (w.heap.size + 1 + 1) kb rb bm capR (sqO B P r) gone (rk P (-1) p) g c (allU B P p r) w') ∧ a' = { tmps := #[.agg #[.int .i64 (p : Int), .slice ao n cap], .slice po p pcap, .pointer (some ⟨w.heap.size, 0, none⟩), undef, .slice none 0 0, .pointer (some ⟨w.heap.size + 1 + 1, 0, none⟩), .pointer (some ⟨kb, 0, none⟩), .pointer (some ⟨bm, 0, none⟩), u8, u9, undef, .slice (some ⟨w.heap.size + 1, 0, none⟩) 0 0, .agg #[.int .i64 (p : Int), .slice ao n cap], .slice po p pcap, .bool true, .bool false, undef, .slice po p pcap, .slice (some ⟨rb, 0, none⟩) p capR, .agg #[.int .i64 (p : Int), .slice ao n cap], .pointer (some ⟨bm, 0, none⟩), .slice po p pcap, .int .i64 (p : Int), .int .i64 (r : Int), u24, u25, u26, u27, u28, u29, u30, undef, undef, undef, undef, undef, undef, undef, undef, undef, undef, u41, u42, u43, u44, undef, undef, undef], defers := marks Ds }) (fun a' _ => p - (intOf (a'.tmps.getD 23 undef)).toNat) ?start ?round
  case start => exact ⟨0, _, _, _, [], _, _, _, _, _, _, _, _, _, _, _, _, _, ⟨Nat.zero_le _, ⟨List.nodup_nil, fun D hD => by cases hD⟩, (fun D hD => by cases hD), hI4⟩, rfl⟩
  case round =>
    clear hI4
    rintro a1 wr ⟨r, g, c, gone, Ds, u8, u9, u24, u25, u26, u27, u28, u29, u30, u41, u42, u43, u44, ⟨hrp, hMk, hDg, hI⟩, rfl⟩
    by_cases hlt : r < p
    rotate_left
    · have e : r = p := by omega
      subst e
      have c1 := hI.ebx.cell
      have hlen := allU_len (B := B) (P := P) hp r
      gi_wp2_with fail
      refine ⟨trivial, ?_⟩
      refine (callsIn_wide.2 (sortBy_any g c (allU B P r r) (by omega) wr hI.own.has)).mono ?_
      rintro e w6 ⟨rfl, ⟨l', hl1, hl2, hl3, hl4⟩, hg6⟩
      have hfs := fill_same hfair he hl2 hl3
      subst hfs
      have hne := hI.ne
      have hgb := hI.own.base
      have c2 := (hI.ebx.kept hg6 (by simp; omega)).cell
      have hz := hI.bel.size
      simp at hz
      have hbel6 := hI.bel.trans (gr_below hg6 (by omega) (by omega))
      have hMk6 : Marked w6 Ds := hMk.grown hg6 (fun D hD e => by
        have h1 := hMk.2 D hD
        obtain ⟨cc, h2, _⟩ := hI.own.has
        simp at e
        subst e
        rw [h1] at h2
        cases h2)
      gi_wp2
      refine leaves_marks Ds _ hMk6 (fun w' h1 h2 h3 h4 h5 => ?_)
      have hnl : g ∉ Ds := fun hD => by
        have h1 := hMk.2 g hD
        obtain ⟨cc, h2, _⟩ := hI.own.has
        rw [h1] at h2
        cases h2
      refine ⟨_, results_tmp rfl _ _ _, g, c, by rw [hl1]; rfl, by have h := hI.own.room; omega, by omega, EHas.of_block hl4 (h5 g hnl), ?_⟩
      have hub := unbox hbel6 (Nat.le_succ _)
      exact ⟨h1.trans hub.os, h2.trans hub.tape, h3.trans hub.output, by rw [h4]; exact hub.size, fun k hk => (h5 k (fun hD => by have := hDg k hD; omega)).trans (hub.block k hk)⟩
    have hlt' : (r : Int) < (p : Int) := by omega
    have hr0 : (0 : Int) ≤ (r : Int) := by omega
    obtain ⟨ha0, ha1⟩ := (each_in p he r hlt).1
    obtain ⟨a, ha⟩ : ∃ a : Nat, P r = (a : Int) := ⟨(P r).toNat, by omega⟩
    have hap : a < p := by omega
    obtain ⟨b, o, hpo, c0⟩ := ((hq.alloc _).below hI.bel (by simp)) r hlt
    subst hpo
    rw [ha] at c0
    gi_wp2_with fail
    refine ⟨trivial, ?_⟩
    refine (callsIn_wide.2 (neighbours_any bm (a : Int) _)).mono ?_
    rintro e w5 ⟨rfl, rfl⟩
    have hz := hI.bel.size
    simp at hz
    have hgl := hI.own.lt
    have hmb := VHas.lt hI.mesh
    have hkl := hI.kbx.lt
    have hrl2 := hI.rks.lt
    have hxl2 := hI.ebx.lt
    have bR := ((Boxed.new wr 3 (.int .i64 (r : Int))).alloc (.cells #[.pointer (some ⟨bm, 0, none⟩)] 116)).alloc (.cells #[.int .i64 (a : Int)] 2)
    have bM := (Boxed.new (wr.alloc (.cells #[.int .i64 (r : Int)] 3)) 116 (.pointer (some ⟨bm, 0, none⟩))).alloc (.cells #[.int .i64 (a : Int)] 2)
    have bP := Boxed.new ((wr.alloc (.cells #[.int .i64 (r : Int)] 3)).alloc (.cells #[.pointer (some ⟨bm, 0, none⟩)] 116)) 2 (.int .i64 (a : Int))
    simp only [World.size_alloc] at bM bP
    have hB0 : Below wr.heap.size wr (((wr.alloc (.cells #[.int .i64 (r : Int)] 3)).alloc (.cells #[.pointer (some ⟨bm, 0, none⟩)] 116)).alloc (.cells #[.int .i64 (a : Int)] 2)) := (((Below.refl _ wr).alloc nl _).alloc (by simp) _).alloc (by simp; omega) _
    have hI5 := hI.next hB0
    have hMk5 : Marked (((wr.alloc (.cells #[.int .i64 (r : Int)] 3)).alloc (.cells #[.pointer (some ⟨bm, 0, none⟩)] 116)).alloc (.cells #[.int .i64 (a : Int)] 2)) Ds := hMk.grown (below_grownN (row := none) hB0) (fun D _ e => by cases e)
    have hsz : (((wr.alloc (.cells #[.int .i64 (r : Int)] 3)).alloc (.cells #[.pointer (some ⟨bm, 0, none⟩)] 116)).alloc (.cells #[.int .i64 (a : Int)] 2)).heap.size = wr.heap.size + 3 := by simp
    generalize ((wr.alloc (.cells #[.int .i64 (r : Int)] 3)).alloc (.cells #[.pointer (some ⟨bm, 0, none⟩)] 116)).alloc (.cells #[.int .i64 (a : Int)] 2) = W0 at bR bM bP hB0 hI5 hMk5 hsz ⊢
    clear hI hMk c0
    have hDl : ∀ D ∈ Ds, D < W0.heap.size := fun D hD => (Array.getElem?_eq_some_iff.1 (hMk5.2 D hD)).1
    gi_wp2
    refine range_alone rfl (by omega) (gf := 96) (lb := #[.pointer (some ⟨wr.heap.size + 1, 0, none⟩), .pointer (some ⟨wr.heap.size + 1 + 1, 0, none⟩)]) rfl trivial (enters_of Tryz.func96 (by kernel_rfl) rfl)
      (encs := fun x : Nat => #[Value.int .i64 (x : Int)]) (fun _ => rfl) (FR w (.slice ao n cap) p (w.heap.size + 1 + 1) kb rb bm capR (sqO B P r) gone (rk P (-1) p) (allU B P p r) r a wr.heap.size Ds) ?own ?h0
      (iter_seq 7 (by omega) (wr.heap.size + 1) (wr.heap.size + 1 + 1) bm p a hp (by omega) _ (fun _ => sqO B P r a) ?reads (fun pre x => x < p ∧ pre.length ≤ 24) (fun k hk _ => ⟨hk, by
        have h1 := visF_len (sqO B P r a) k
        have h2 := cntB_le (sqO B P r a) k
        unfold visF at h1
        omega⟩) W0)
      (fun x a' _ => a' = { tmps := #[.agg #[.int .i64 (p : Int), .slice ao n cap], .slice (some ⟨b, o, none⟩) p pcap, .pointer (some ⟨w.heap.size, 0, none⟩), undef, .slice none 0 0, .pointer (some ⟨w.heap.size + 1 + 1, 0, none⟩), .pointer (some ⟨kb, 0, none⟩), .pointer (some ⟨bm, 0, none⟩), .pointer (some ⟨wr.heap.size, 0, none⟩), .int .i64 (a : Int), .int .i64 (x : Int), .slice (some ⟨w.heap.size + 1, 0, none⟩) 0 0, .agg #[.int .i64 (p : Int), .slice ao n cap], .slice (some ⟨b, o, none⟩) p pcap, .bool true, .bool false, undef, .slice (some ⟨b, o, none⟩) p pcap, .slice (some ⟨rb, 0, none⟩) p capR, .agg #[.int .i64 (p : Int), .slice ao n cap], .pointer (some ⟨bm, 0, none⟩), .slice (some ⟨b, o, none⟩) p pcap, .int .i64 (p : Int), .int .i64 (r : Int), .bool true, .int .i64 (r : Int), .pointer (some ⟨b, o + r, none⟩), .int .i64 (a : Int), .pointer (some ⟨bm, 0, none⟩), .int .i64 (a : Int), .func (.func 96) #[] #[.pointer (some ⟨wr.heap.size + 1, 0, none⟩), .pointer (some ⟨wr.heap.size + 1 + 1, 0, none⟩)], .int .i64 (x : Int), undef, undef, undef, undef, undef, undef, undef, undef, undef, u41, u42, u43, u44, undef, undef, undef], defers := [] })
      (fun _ _ _ _ _ _ hs _ _ => hs)
      ?assign ?body ?done
    case own => exact FR.own (by omega) hDl
    case h0 => exact ⟨⟨g, c, by simpa using hI5, by omega, by omega, by omega⟩, bR, bM, bP, hMk5⟩
    case reads =>
      rintro pre W ⟨⟨g', c', h1, _⟩, _, h3, h4, _⟩
      exact Reads.of_mesh (by omega) h3.cell h4.cell h1.mesh
    case assign =>
      rintro l pre x W K hi _ hK
      gi_wp2
      exact hK _ _ (KeepsFrom.refl _ _) hi rfl
    case body =>
      rintro l pre x a' W hl hrec hi ⟨hxp, hpl⟩ rfl
      gi_wp2
      obtain ⟨⟨g', c', hF, n1, n2, n3⟩, bR', bM', bP', hMk'⟩ := hi
      have hlU := allU_len (B := B) (P := P) hp r
      have hl24 : (allU B P p r ++ pre.map (fun q => ((r : Int), rk P (-1) p q))).length ≤ 1000000 := by
        rw [List.length_append, List.length_map]
        omega
      have hsn : allU B P p r ++ (pre ++ [x]).map (fun q => ((r : Int), rk P (-1) p q)) = allU B P p r ++ pre.map (fun q => ((r : Int), rk P (-1) p q)) ++ [((r : Int), rk P (-1) p x)] := by simp
      have HSN : Hid (allU B P p r ++ (pre ++ [x]).map (fun q => ((r : Int), rk P (-1) p q)) = allU B P p r ++ pre.map (fun q => ((r : Int), rk P (-1) p q)) ++ [((r : Int), rk P (-1) p x)]) := hsn
      clear hsn
      generalize allU B P p r ++ pre.map (fun q => ((r : Int), rk P (-1) p q)) = l1 at hF hl24 HSN
      have e0 := hF.ebx.cell
      have z0 := hF.ebx.frozen
      have e1 := bR'.cell
      have e2 := hF.kbx.cell
      have e5 := hF.rks.cell hxp
      have hxp' : (x : Int) < (p : Int) := by omega
      have hx0 : (0 : Int) ≤ (x : Int) := by omega
      have hS0 : (fun V : World => V.cell? ⟨wr.heap.size, 0, none⟩ = some (.int .i64 (r : Int)) ∧ V.cell? ⟨kb, 0, none⟩ = some (.slice (some ⟨rb, 0, none⟩) p capR) ∧ V.cell? ⟨rb, x, none⟩ = some (.int .i64 (rk P (-1) p x))) W.drew := ⟨e1, e2, e5⟩
      refine region_round (fun V : World => V.cell? ⟨wr.heap.size, 0, none⟩ = some (.int .i64 (r : Int)) ∧ V.cell? ⟨kb, 0, none⟩ = some (.slice (some ⟨rb, 0, none⟩) p capR) ∧ V.cell? ⟨rb, x, none⟩ = some (.int .i64 (rk P (-1) p x))) (by kernel_rfl) (by kernel_rfl) (fun ⟨_, _, h⟩ => by simp [Exit.inBlock, roundQ] at h) ?_
      refine wpAnyH_take (i := 3) (v := .int .i64 (x : Int)) rfl (by kernel_rfl) (by kernel_rfl) (by kernel_rfl) (fun _ _ _ h => h) (Or.inl ⟨by rfl, fun V hV => ?_⟩) hS0 ?_
      · obtain ⟨v1, v2, v3⟩ := hV
        go_simp
      simp only [Act.put, List.setIfInBounds_toArray, List.set_cons_succ, List.set_cons_zero]
      refine wpAnyH_take (i := 2) (v := .slice (some ⟨rb, 0, none⟩) p capR) rfl (by kernel_rfl) (by kernel_rfl) (by kernel_rfl) (fun _ _ _ h => h) (Or.inl ⟨by rfl, fun V hV => ?_⟩) hS0 ?_
      · obtain ⟨v1, v2, v3⟩ := hV
        go_simp
      simp only [Act.put, List.setIfInBounds_toArray, List.set_cons_succ, List.set_cons_zero]
      refine wpAnyH_take (i := 4) (v := .pointer (some ⟨rb, x, none⟩)) rfl (by kernel_rfl) (by kernel_rfl) (by kernel_rfl) (fun _ _ _ h => h) (Or.inl ⟨by rfl, fun V hV => ?_⟩) hS0 ?_
      · obtain ⟨v1, v2, v3⟩ := hV
        go_simp
      simp only [Act.put, List.setIfInBounds_toArray, List.set_cons_succ, List.set_cons_zero]
      refine wpAnyH_take (i := 5) (v := .int .i64 (rk P (-1) p x)) rfl (by kernel_rfl) (by kernel_rfl) (by kernel_rfl) (fun _ _ _ h => h) (Or.inl ⟨by rfl, fun V hV => ?_⟩) hS0 ?_
      · obtain ⟨v1, v2, v3⟩ := hV
        go_simp
      simp only [Act.put, List.setIfInBounds_toArray, List.set_cons_succ, List.set_cons_zero]
      refine wpAnyH_take (i := 1) (v := .int .i64 (r : Int)) rfl (by kernel_rfl) (by kernel_rfl) (by kernel_rfl) (fun _ _ _ h => h) (Or.inl ⟨by rfl, fun V hV => ?_⟩) hS0 ?_
      · obtain ⟨v1, v2, v3⟩ := hV
        go_simp
      simp only [Act.put, List.setIfInBounds_toArray, List.set_cons_succ, List.set_cons_zero]
      refine wpAnyH_take (i := 6) (v := .agg #[.int .i64 (r : Int), .int .i64 (rk P (-1) p x)]) rfl (by kernel_rfl) (by kernel_rfl) (by kernel_rfl) (fun _ _ _ h => h) (Or.inl ⟨by rfl, fun V hV => ?_⟩) hS0 ?_
      · obtain ⟨v1, v2, v3⟩ := hV
        go_simp
      simp only [Act.put, List.setIfInBounds_toArray, List.set_cons_succ, List.set_cons_zero]
      have hWA : Below W.heap.size W (W.alloc (.cells #[.int .i64 (r : Int), .int .i64 (rk P (-1) p x)] 94)).drew := ((Below.refl _ _).alloc nl _).drew
      have hFA := hF.next hWA
      have eA0 := hFA.ebx.cell
      have hA0 : (W.alloc (.cells #[.int .i64 (r : Int), .int .i64 (rk P (-1) p x)] 94)).drew.cell? ⟨W.heap.size, 0, none⟩ = some (.int .i64 (r : Int)) := by simp [go_sem]
      have hA1 : (W.alloc (.cells #[.int .i64 (r : Int), .int .i64 (rk P (-1) p x)] 94)).drew.cell? ⟨W.heap.size, 1, none⟩ = some (.int .i64 (rk P (-1) p x)) := by simp [go_sem]
      have hAb : w.heap.size + 1 ≤ (W.alloc (.cells #[.int .i64 (r : Int), .int .i64 (rk P (-1) p x)] 94)).drew.heap.size := by have := hFA.bel.size; simpa using this
      have hFn := hF.ne
      have hS1 : (fun V : World => V.cell? ⟨wr.heap.size, 0, none⟩ = some (.int .i64 (r : Int)) ∧ V.cell? ⟨kb, 0, none⟩ = some (.slice (some ⟨rb, 0, none⟩) p capR) ∧ V.cell? ⟨rb, x, none⟩ = some (.int .i64 (rk P (-1) p x))) (W.alloc (.cells #[.int .i64 (r : Int), .int .i64 (rk P (-1) p x)] 94)).drew := ⟨keep_cell hWA nl e1, keep_cell hWA nl e2, keep_cell hWA nl e5⟩
      refine wpAnyH_ready (rs := [0, 7]) (by kernel_rfl) (by simp) (AllReadyH.cons rfl (fun K hK => ?first) (AllReadyH.cons rfl (fun K hK => ?second) AllReadyH.nil))
      case first =>
        go_simp
        refine hK.out _ _ hS0 (fun _ => ?_)
        clear hK K
        refine wpAnyH_ready (rs := [7]) (by kernel_rfl) (by simp) (AllReadyH.cons rfl (fun K hK => ?_) AllReadyH.nil)
        go_simp
        refine hK.out _ _ hS1 (fun _ => ?_)
        clear hK K
        refine wpAnyH_ready (rs := [8]) (by kernel_rfl) (by simp) (AllReadyH.cons rfl (fun K hK => ?_) AllReadyH.nil)
        refine step_append_edge rfl (.tmp 32) (.tmp 39) rfl (w.heap.size + 1) g' c' l1 rfl hFA.own W.heap.size 1 (r : Int) (rk P (-1) p x) rfl hA0 hA1 hl24 hAb ?_
        intro g2 c2 w7 hown7 hgrow7 hat7
        have q1 : w7.cell? ⟨w.heap.size + 1 + 1, 0, none⟩ = some (.slice (some ⟨g', 0, none⟩) l1.length c') := hgrow7.cell eA0 (by simp; omega)
        have q2 : w7.frozen? ⟨w.heap.size + 1 + 1, 0, none⟩ = false := (hFA.ebx.kept hgrow7 (by simp; omega)).frozen
        have hS7 : (fun V : World => V.cell? ⟨wr.heap.size, 0, none⟩ = some (.int .i64 (r : Int)) ∧ V.cell? ⟨kb, 0, none⟩ = some (.slice (some ⟨rb, 0, none⟩) p capR) ∧ V.cell? ⟨rb, x, none⟩ = some (.int .i64 (rk P (-1) p x))) w7 := ⟨hgrow7.cell hS1.1 (by simp; omega), hgrow7.cell hS1.2.1 (by simp; omega), hgrow7.cell hS1.2.2 (by simp; omega)⟩
        have hS8 : (fun V : World => V.cell? ⟨wr.heap.size, 0, none⟩ = some (.int .i64 (r : Int)) ∧ V.cell? ⟨kb, 0, none⟩ = some (.slice (some ⟨rb, 0, none⟩) p capR) ∧ V.cell? ⟨rb, x, none⟩ = some (.int .i64 (rk P (-1) p x))) (w7.setCell ⟨w.heap.size + 1 + 1, 0, none⟩ (.slice (some ⟨g2, 0, none⟩) (l1.length + 1) c2)) := by
          have hs := gr_setCell w7 (w.heap.size + 1 + 1) 0 (.slice (some ⟨g2, 0, none⟩) (l1.length + 1) c2)
          exact ⟨hs.cell hS7.1 (by simp; omega), hs.cell hS7.2.1 (by simp; omega), hs.cell hS7.2.2 (by simp; omega)⟩
        have hF8 := hFA.longer hgrow7 hown7 hat7
        rw [List.length_append] at hF8
        refine hK.out _ _ hS7 (fun _ => ?_)
        clear hK K
        simp only [Act.put, List.setIfInBounds_toArray, List.set_cons_succ, List.set_cons_zero]
        refine wpAnyH_ready (rs := [9]) (by kernel_rfl) (by simp) (AllReadyH.cons rfl (fun K hK => ?_) AllReadyH.nil)
        go_simp
        refine hK.out _ _ hS8 (fun _ => ?_)
        clear hK K
        refine wpAnyH_done (by kernel_rfl) ?_ _
        have hPl := bP'.lt
        have hg2 : g2 = g' ∨ g2 = W.heap.size + 1 := by simpa using hat7
        have hst := gr_setCell w7 (w.heap.size + 1 + 1) 0 (.slice (some ⟨g2, 0, none⟩) (l1.length + 1) c2)
        have hEc := hFA.own.has
        have hMA := hMk'.grown (below_grownN (row := none) hWA) (fun D _ e => by cases e)
        refine ⟨rfl, ((keeps_below hWA).trans (keeps_cells hgrow7 (by obtain ⟨cc, h2, _⟩ := hEc; exact ⟨_, _, _, h2⟩))).trans (keeps_cells hst ⟨_, _, _, hFA.ebx.kept hgrow7 (by simp; omega)⟩), ⟨g2, c2, by rw [HSN.out]; exact hF8, by omega, by omega, by omega⟩, ?_, ?_, ?_, ?_⟩
        · exact ((bR'.kept (below_grownN (row := none) hWA) (by simp)).kept hgrow7 (by simp; omega)).kept hst (by simp; omega)
        · exact ((bM'.kept (below_grownN (row := none) hWA) (by simp)).kept hgrow7 (by simp; omega)).kept hst (by simp; omega)
        · exact ((bP'.kept (below_grownN (row := none) hWA) (by simp)).kept hgrow7 (by simp; omega)).kept hst (by simp; omega)
        · refine (hMA.grown hgrow7 (fun D hD e => ?_)).grown hst (fun D hD e => ?_)
          · simp at e
            subst e
            obtain ⟨cc, h2, _⟩ := hEc
            have := hMA.2 _ hD
            rw [h2] at this
            cases this
          · simp at e
            have := hMk'.2 D hD
            rw [← e] at this
            have h2 := hF.ebx
            unfold Boxed at h2
            rw [h2] at this
            cases this
      case second =>
        go_simp
        refine hK.out _ _ hS1 (fun _ => ?_)
        clear hK K
        refine wpAnyH_ready (rs := [0]) (by kernel_rfl) (by simp) (AllReadyH.cons rfl (fun K hK => ?_) AllReadyH.nil)
        go_simp
        refine hK.out _ _ hS1 (fun _ => ?_)
        clear hK K
        refine wpAnyH_ready (rs := [8]) (by kernel_rfl) (by simp) (AllReadyH.cons rfl (fun K hK => ?_) AllReadyH.nil)
        refine step_append_edge rfl (.tmp 32) (.tmp 39) rfl (w.heap.size + 1) g' c' l1 rfl hFA.own W.heap.size 1 (r : Int) (rk P (-1) p x) rfl hA0 hA1 hl24 hAb ?_
        intro g2 c2 w7 hown7 hgrow7 hat7
        have q1 : w7.cell? ⟨w.heap.size + 1 + 1, 0, none⟩ = some (.slice (some ⟨g', 0, none⟩) l1.length c') := hgrow7.cell eA0 (by simp; omega)
        have q2 : w7.frozen? ⟨w.heap.size + 1 + 1, 0, none⟩ = false := (hFA.ebx.kept hgrow7 (by simp; omega)).frozen
        have hS7 : (fun V : World => V.cell? ⟨wr.heap.size, 0, none⟩ = some (.int .i64 (r : Int)) ∧ V.cell? ⟨kb, 0, none⟩ = some (.slice (some ⟨rb, 0, none⟩) p capR) ∧ V.cell? ⟨rb, x, none⟩ = some (.int .i64 (rk P (-1) p x))) w7 := ⟨hgrow7.cell hS1.1 (by simp; omega), hgrow7.cell hS1.2.1 (by simp; omega), hgrow7.cell hS1.2.2 (by simp; omega)⟩
        have hS8 : (fun V : World => V.cell? ⟨wr.heap.size, 0, none⟩ = some (.int .i64 (r : Int)) ∧ V.cell? ⟨kb, 0, none⟩ = some (.slice (some ⟨rb, 0, none⟩) p capR) ∧ V.cell? ⟨rb, x, none⟩ = some (.int .i64 (rk P (-1) p x))) (w7.setCell ⟨w.heap.size + 1 + 1, 0, none⟩ (.slice (some ⟨g2, 0, none⟩) (l1.length + 1) c2)) := by
          have hs := gr_setCell w7 (w.heap.size + 1 + 1) 0 (.slice (some ⟨g2, 0, none⟩) (l1.length + 1) c2)
          exact ⟨hs.cell hS7.1 (by simp; omega), hs.cell hS7.2.1 (by simp; omega), hs.cell hS7.2.2 (by simp; omega)⟩
        have hF8 := hFA.longer hgrow7 hown7 hat7
        rw [List.length_append] at hF8
        refine hK.out _ _ hS7 (fun _ => ?_)
        clear hK K
        simp only [Act.put, List.setIfInBounds_toArray, List.set_cons_succ, List.set_cons_zero]
        refine wpAnyH_ready (rs := [9]) (by kernel_rfl) (by simp) (AllReadyH.cons rfl (fun K hK => ?_) AllReadyH.nil)
        go_simp
        refine hK.out _ _ hS8 (fun _ => ?_)
        clear hK K
        refine wpAnyH_done (by kernel_rfl) ?_ _
        have hPl := bP'.lt
        have hg2 : g2 = g' ∨ g2 = W.heap.size + 1 := by simpa using hat7
        have hst := gr_setCell w7 (w.heap.size + 1 + 1) 0 (.slice (some ⟨g2, 0, none⟩) (l1.length + 1) c2)
        have hEc := hFA.own.has
        have hMA := hMk'.grown (below_grownN (row := none) hWA) (fun D _ e => by cases e)
        refine ⟨rfl, ((keeps_below hWA).trans (keeps_cells hgrow7 (by obtain ⟨cc, h2, _⟩ := hEc; exact ⟨_, _, _, h2⟩))).trans (keeps_cells hst ⟨_, _, _, hFA.ebx.kept hgrow7 (by simp; omega)⟩), ⟨g2, c2, by rw [HSN.out]; exact hF8, by omega, by omega, by omega⟩, ?_, ?_, ?_, ?_⟩
        · exact ((bR'.kept (below_grownN (row := none) hWA) (by simp)).kept hgrow7 (by simp; omega)).kept hst (by simp; omega)
        · exact ((bM'.kept (below_grownN (row := none) hWA) (by simp)).kept hgrow7 (by simp; omega)).kept hst (by simp; omega)
        · exact ((bP'.kept (below_grownN (row := none) hWA) (by simp)).kept hgrow7 (by simp; omega)).kept hst (by simp; omega)
        · refine (hMA.grown hgrow7 (fun D hD e => ?_)).grown hst (fun D hD e => ?_)
          · simp at e
            subst e
            obtain ⟨cc, h2, _⟩ := hEc
            have := hMA.2 _ hD
            rw [h2] at this
            cases this
          · simp at e
            have := hMk'.2 D hD
            rw [← e] at this
            have h2 := hF.ebx
            unfold Boxed at h2
            rw [h2] at this
            cases this
    case done =>
      rintro D xs W hD rfl ⟨⟨g', c', hF, n1, n2, n3⟩, bR', bM', bP', hMk'⟩ hK
      have hrw : allU B P p (r + 1) = allU B P p r ++ (vis (fun _ => sqO B P r a) p).map (fun q => ((r : Int), rk P (-1) p q)) := by
        show allU B P p r ++ rowU B P p r p = _
        unfold rowU visF
        rw [show (P r).toNat = a by omega]
      rw [← hrw] at hF
      gi_wp2_with fail
      refine ⟨trivial, ?_⟩
      refine (callsIn_wide.2 (takeAway_any bm p a (sqO B P r) gone hp hap (sqO_fair hfair P r) (sqO_within hwi P r) W hF.mesh)).mono ?_
      rintro e w8 ⟨rfl, hM8, hg8⟩
      have hF8 := hF.taken hg8 hM8
      have hsq : sqO B P (r + 1) = tk (sqO B P r) a := by
        show tk (sqO B P r) (P r).toNat = _
        rw [show (P r).toNat = a by omega]
      rw [← hsq] at hF8
      have hmne : ∀ E, W.heap[E]? = some (.deferred (some [])) → E ≠ bm := fun E hE e => by
        obtain ⟨cc, h2, _⟩ := hF.mesh
        rw [e, h2] at hE
        cases hE
      have hMk8 : Marked w8 (D :: Ds) := by
        refine Marked.grown (W := W) ⟨List.nodup_cons.2 ⟨fun hD' => ?_, hMk'.1⟩, fun E hE => ?_⟩ hg8 (fun E hE e => ?_)
        · have := hDl D hD'
          omega
        · simp at hE
          rcases hE with rfl | hE
          · exact hK
          · exact hMk'.2 E hE
        · simp at e hE
          rcases hE with rfl | hE
          · exact hmne _ hK e.symm
          · exact hmne _ (hMk'.2 E hE) e.symm
      gi_wp2
      refine ⟨⟨r + 1, g', c', _, D :: Ds, _, _, _, _, _, _, _, _, _, _, _, _, _, ⟨by omega, hMk8, fun E hE => ?_, hF8⟩, by rw [show ((r + 1 : Nat) : Int) = (r : Int) + 1 by omega]; rfl⟩, ?_⟩
      · simp at hE
        rcases hE with rfl | hE
        · omega
        · exact hDg E hE
      · simp [intOf]; omega
end
section
open Go.RowKit
attribute [local go_sem ↓] Go.wp_at_zero Go.wp_at_succ
def ERoom (w w' : World) (e : Ending) (m : Nat) (L H : Nat → Int) : Prop := ∃ ao cap, e = .returned (.slice ao m cap) ∧ m ≤ cap ∧ (0 < m → ∃ g, ao = some ⟨g, 0, none⟩ ∧ w.heap.size ≤ g ∧ EHas w' g m (er L H)) ∧ Below w.heap.size w w'
set_option maxHeartbeats 1000000 in
theorem implFill_room (p : Int) (ao : Option Addr) (n cap : Nat) (F T G : Nat → Int) (po : Option Addr) (m pcap : Nat) (P : Nat → Int) (hn : n ≤ 1048576) (hm : m ≤ 1048576) (w : World) (hr : Row w ao n F T G) (hq : IRow w po m P) :
    Calls Tryz.prog 60 #[.agg #[.int .i64 p, .slice ao n cap], .slice po m pcap] w fun e w' => ERoom w w' e (lenF p n F T G m P) (Lf (lstF p n F T P)) (Hf (lstF p n F T P)) := by
  rcases Bool.eq_false_or_eq_true (ordB p n F T G m P) with h | h
  rotate_left
  · have hL : lenF p n F T G m P = 0 := by simp [lenF, h]
    rw [hL]
    have hA0 : Below w.heap.size w (((w.alloc (.cells #[.int .i64 p, .slice ao n cap] 26)).alloc (.cells #[] 94)).alloc (.cells #[.slice (some ⟨w.heap.size + 1, 0, none⟩) 0 0] 28)) := (((Below.refl _ _).alloc nl _).alloc (by simp) _).alloc (by simp; omega) _
    go_enter Tryz.func60, Tryz.ntmps60
    go_wp2_with (go_at_call 58; refine (implOrderOk_any p ao n cap F T G po m pcap P hn hm _ (hr.below hA0 nl) (hq.below hA0 nl)).mono ?_; rintro e w1 ⟨rfl, hb1⟩; have hbx := keep_cell hb1 nl (b := w.heap.size + 1 + 1) (o := 0) (by simp [go_sem]; rfl))
    go_ret
    exact ⟨_, _, rfl, Nat.le_refl _, fun h => by omega, below_next hA0 nl hb1⟩
  obtain ⟨hmp, hg, ⟨hm1, hm2⟩, he⟩ := ordB_parts h
  subst hmp
  have hL : lenF m n F T G m P = (allS (nbA F T n) P m m).length := by simp [lenF, h, lstF]
  have hS : lstF m n F T P = allS (nbA F T n) P m m := by simp [lstF]
  rw [hL, hS]
  obtain ⟨_, hn1, hF, hT, hFT⟩ := ok_arcs hg
  refine (implFill_walk m ao n cap F T G po pcap P hm1 hm2 hn1 hF hT hFT h w hr hq).mono ?_
  rintro e w' ⟨g, c, rfl, hc, hg2, hE, hb⟩
  exact ⟨_, _, rfl, hc, fun _ => ⟨g, rfl, hg2, hE⟩, hb⟩
theorem implFill_any (p : Int) (ao : Option Addr) (n cap : Nat) (F T G : Nat → Int) (po : Option Addr) (m pcap : Nat) (P : Nat → Int) (hn : n ≤ 1048576) (hm : m ≤ 1048576) (w : World) (hr : Row w ao n F T G) (hq : IRow w po m P) :
    Calls Tryz.prog 60 #[.agg #[.int .i64 p, .slice ao n cap], .slice po m pcap] w fun e w' => EAns w w' e (lenF p n F T G m P) (Lf (lstF p n F T P)) (Hf (lstF p n F T P)) :=
  (implFill_room p ao n cap F T G po m pcap P hn hm w hr hq).mono fun _ _ ⟨a, c, h1, _, h2, h3⟩ => ⟨a, c, h1, h2, h3⟩
set_option maxHeartbeats 1000000 in
theorem implNewHier_any (p : Int) (ao : Option Addr) (n cap : Nat) (F T G : Nat → Int) (hn : n ≤ 1048576) (w : World) (hr : Row w ao n F T G) :
    Calls Tryz.prog 43 #[.agg #[.int .i64 p, .slice ao n cap]] w fun e w' => HAns w w' e (lenO p n F T G) (listO p n F T) (lenF p n F T G (lenO p n F T G) (listO p n F T)) (Lf (lstF p n F T (listO p n F T))) (Hf (lstF p n F T (listO p n F T))) := by
  rcases Bool.eq_false_or_eq_true (graphB p n F T G) with h | h
  rotate_left
  · have h1 : lenO p n F T G = 0 := by simp [lenO, h]
    have h2 : lenF p n F T G (lenO p n F T G) (listO p n F T) = 0 := by simp [lenF, ordB, h]
    rw [h2, h1]
    go_enter Tryz.func43, Tryz.ntmps43
    go_wp2_with (go_at_call 41; refine (implGraphOk_any p ao n cap F T G hn _ ((hr.alloc _).alloc _)).mono ?_; rintro e w1 ⟨rfl, hb1⟩; obtain ⟨⟨q0, q1⟩, ⟨q2, q3⟩, ⟨q4, q5⟩, q6⟩ := box22 (hb1.mono (by simp)))
    exact bodyPost_ret (v := .agg #[.slice none 0 0, .slice none 0 0]) (by simp [results, Tryz.results43, go_sem, q2, q3, q4, q5]) rfl ⟨_, _, _, _, rfl, fun h => by omega, fun h => by omega, by simp [World.setCell]; omega, ret_below (unbox2 hb1 (by simp; omega)) (by simp) _ _⟩
  have hm := lenO_le p n F T G
  have hA := fun ao' cap' W hr' => implOrder_any p ao' n cap' F T G hn W hr'
  have hB := fun ao' cap' po' pcap' W hr' hp' => implFill_any p ao' n cap' F T G po' (lenO p n F T G) pcap' (listO p n F T) hn (by omega) W hr' hp'
  generalize lenF p n F T G (lenO p n F T G) (listO p n F T) = k at hB ⊢
  generalize Lf (lstF p n F T (listO p n F T)) = L at hB ⊢
  generalize Hf (lstF p n F T (listO p n F T)) = H at hB ⊢
  generalize lenO p n F T G = m at hA hB hm ⊢
  generalize listO p n F T = D at hA hB ⊢
  have HO : Hid (∀ ao' cap' W, Row W ao' n F T G → Calls Tryz.prog 74 #[.agg #[.int .i64 p, .slice ao' n cap']] W fun e w' => Ans W w' e m D) := hA
  have HF : Hid (∀ ao' cap' po' pcap' W, Row W ao' n F T G → IRow W po' m D → Calls Tryz.prog 60 #[.agg #[.int .i64 p, .slice ao' n cap'], .slice po' m pcap'] W fun e w' => EAns W w' e k L H) := hB
  clear hA hB
  go_enter Tryz.func43, Tryz.ntmps43
  go_wp2_with fail
  refine (implGraphOk_any p ao n cap F T G hn _ ((hr.alloc _).alloc _)).mono ?_
  rw [h]
  rintro e w1 ⟨rfl, hb1⟩
  have hA1 := hb1.mono (B' := w.heap.size + 2) (by simp)
  obtain ⟨⟨q0, q1⟩, ⟨q2, q3⟩, ⟨q4, q5⟩, q6⟩ := box22 hA1
  clear hb1
  go_wp2_with fail
  refine (HO.out _ _ _ (((hr.alloc _).alloc _).below hA1 (by simp))).mono ?_
  rintro e w2 ⟨aoD, capD, rfl, hD, hb2⟩
  have hA2 := below_next hA1 (by simp) hb2
  clear q0 q1 q2 q3 q4 q5 q6
  obtain ⟨⟨q0, q1⟩, ⟨q2, q3⟩, ⟨q4, q5⟩, q6⟩ := box22 hA2
  have hrD : IRow w2 aoD m D := fun j hj => by
    obtain ⟨g, e, _, hI⟩ := hD (by omega)
    subst e
    exact hI.row j hj
  go_wp2_with fail
  refine (HF.out _ _ _ _ _ (((hr.alloc _).alloc _).below hA2 (by simp)) hrD).mono ?_
  rintro e w3 ⟨aoE, capE, rfl, hE, hb3⟩
  have hA3 := below_next hA2 (by simp) hb3
  clear q0 q1 q2 q3 q4 q5 q6
  have s1 := hA1.size
  have s2 := hA2.size
  simp only [World.size_alloc] at s1 s2
  obtain ⟨⟨q0, q1⟩, ⟨q2, q3⟩, ⟨q4, q5⟩, q6⟩ := box22 hA3
  go_wp2
  refine bodyPost_ret (v := .agg #[.slice aoD m capD, .slice aoE k capE]) (by simp [results, Tryz.results43, go_sem, q2, q3, q4, q5]) rfl ⟨_, _, _, _, rfl, fun h => ?_, fun h => ?_, by simp [World.setCell]; omega, ret_below (unbox2 hA3 (by simp)) (by simp) _ _⟩
  · obtain ⟨g, e, hg, hI⟩ := hD h
    exact ⟨g, e, by omega, (hI.below hb3 hI.lt).of_block (ret_block _ _ (by omega))⟩
  · obtain ⟨g, e, hg, hI⟩ := hE h
    exact ⟨g, e, by omega, hI.of_block (ret_block _ _ (by omega))⟩
end
end Go.Proofs.YthmpliljffmmcaaGreatDoor
