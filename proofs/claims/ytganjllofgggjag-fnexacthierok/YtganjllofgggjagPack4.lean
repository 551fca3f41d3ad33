/-
  Helpers, merged: RoundAny, FillI, FillL, FillW, OrdEach, Box22, Hier, EdOk, EdOkImpl, ChdP, Chd, Equal, Skips.
-/
import Derived.Test.YtganjllofgggjagPack2
import Derived.OrdersHeld
import Derived.Deep.RegionHeld
import Derived.Test.YtganjllofgggjagPack1
import Derived.Test.YtganjllofgggjagPack3
import Derived.Test.YtganjllofgggjagRows
/-
  A region that draws its order, in a round of a range over a function: what holds of it in whatever order in a plain walk holds of it there. (The laws of a fence take nothing first in a round.)
-/
set_option linter.unusedVariables false
set_option linter.unusedSimpArgs false
namespace Go.Proofs.Ytganjllofgggjag
open Go

/-- No operation defers a call. -/
def noDefer (ops : Array Oper) : Bool := ops.all fun o => match o.op with | .defer _ => false | _ => true
theorem noDefer_at {ops : Array Oper} (h : noDefer ops = true) {i : Nat} {o : Oper} (hi : ops[i]? = some o) : ∀ c, o.op ≠ .defer c := fun c e => by
  unfold noDefer at h
  rw [Array.all_eq_true] at h
  obtain ⟨hlt, rfl⟩ := Array.getElem?_eq_some_iff.1 hi
  have := h i hlt
  rw [e] at this
  cases this
theorem oper_in {P : Program} {l n : Nat} {o : Oper} {a : Act} {w : World} {K : Act → World → Prop} {Q : Exit → Act → World → Prop} (hd : ∀ c, o.op ≠ .defer c) (h : o.wp P a w K Q) : o.wpIn (Fence.wide.inRound l) n P a w K Q := by
  refine ⟨fun _ _ => trivial, ?_⟩
  rw [Oper.semAt_plain _ _ _ hd]
  unfold Oper.wp at h
  generalize (execOp a.eval o).run P w = r at h
  cases r with
  | ok x w' =>
    cases x <;> simp only [Oper.upon, Oper.uponIn] at h ⊢ <;>
      first
        | exact h
        | exact ⟨fun hh => by simp [Fence.wide] at hh, CallsIn.inRound l (callsIn_wide.2 h)⟩
        | exact ⟨fun hh => by simp [Fence.wide] at hh, fun c cs _ => let ⟨v, w', r, s⟩ := h c cs; ⟨v, w', r, stepsIn_wide.2 s⟩⟩
        | exact h.elim
  | halt x w' => cases x <;> simp only [Oper.upon, Oper.uponIn] at h ⊢ <;> exact h
theorem any_in {P : Program} {l n : Nat} {md : Region.Mode} {ops : Array Oper} {Q : Exit → Act → World → Prop} (hd : noDefer ops = true) (hL : ¬ LetsOut Q) :
    ∀ (fuel : Nat) (listed : Array Bool) (a : Act) (w : World), wpAny P md ops Q fuel listed a w → wpAnyIn (Fence.wide.inRound l) n P md ops Q fuel listed a w
  | 0, _, _, _, h => h
  | fuel + 1, listed, a, w, h => ⟨h.1, fun i hi => by
    have h2 := h.2 i hi
    unfold wpOp at h2
    unfold wpOpIn
    cases ho : ops[i]? with
    | none =>
      rw [ho] at h2
      exact any_in hd hL fuel _ a w h2
    | some o =>
      rw [ho] at h2
      simp only at h2 ⊢
      by_cases hw : Region.wanted o (yielded ops a.tmps) = true
      · rw [if_pos hw] at h2 ⊢
        rcases h2 with h2 | ⟨_, h2⟩
        · exact Oper.wpIn_mono (fun a' w' h' => any_in hd hL fuel _ a' w' h') (oper_in (noDefer_at hd ho) h2)
        · exact absurd h2 hL
      · rw [if_neg hw] at h2 ⊢
        exact ⟨fun _ _ => trivial, any_in hd hL fuel _ _ w h2⟩⟩
theorem region_round {P : Program} {l n id : Nat} {ops : Array Oper} {Q : Exit → Act → World → Prop} {a : Act} {w : World} (S : World → Prop) (hm : P.follows .mixedOrders = true) (hd : noDefer ops = true) (hL : ¬ LetsOut Q)
    (h : wpAnyH P .any ops Q S ops.size (Array.replicate ops.size false) a w.drew) : (Code.region id ops true).wpIn (Fence.wide.inRound l) n P Q a w :=
  wpIn_region_any hm (any_in hd hL _ _ _ _ (wpAny_of_held _ _ _ _ h))

/-- Marks of loops that have ended: taken one after the other when the function leaves. -/
def marks (Ds : List Nat) : List Deferred := Ds.map fun D => { target := .collected D, args := #[] }
def Marked (w : World) (Ds : List Nat) : Prop := Ds.Nodup ∧ ∀ D ∈ Ds, w.heap[D]? = some (.deferred (some []))
theorem leaves_marks {F : Fence} {n : Nat} {P : Program} {fn : Func} {tmps : Array Value} {R : Ending → World → Prop} : ∀ (Ds : List Nat) (w : World), Marked w Ds →
    (∀ w', w'.os = w.os → w'.tape = w.tape → w'.output = w.output → w'.heap.size = w.heap.size → (∀ k, k ∉ Ds → w'.heap[k]? = w.heap[k]?) → LeavesInM F n P fn tmps R [] .returning w') → LeavesInM F n P fn tmps R (marks Ds) .returning w
  | [], w, _, h => h w rfl rfl rfl rfl (fun _ _ => rfl)
  | D :: Ds, w, ⟨hn, hD⟩, h => by
    rw [List.nodup_cons] at hn
    refine ⟨by simp, .inl ⟨D, _, rfl, run_takeDeferred (hD D (by simp)), ?_⟩⟩
    refine leaves_marks Ds _ ⟨hn.2, fun E hE => ?_⟩ (fun w' h1 h2 h3 h4 h5 => ?_)
    · rw [World.putObj_heap_other (fun e => hn.1 (by rw [← e]; exact hE))]
      exact hD E (by simp [hE])
    · refine h w' h1 h2 h3 (by rw [h4]; simp [World.putObj]) (fun k hk => ?_)
      simp at hk
      rw [h5 k hk.2, World.putObj_heap_other hk.1]

end Go.Proofs.Ytganjllofgggjag

/-
  The fill, the program's: the edges as they come, then sorted. For maps of at most 24 places and orders that have each place once.
-/
set_option linter.unusedVariables false
set_option linter.unusedSimpArgs false
namespace Go.Proofs.Ytganjllofgggjag
open Go.RowKit Go.Shelf
attribute [local go_sem] Oper.semAt_some

theorem below_grownN {w w' : World} {row : Option Nat} (h : Below w.heap.size w w') : w.grownBy w' row := ⟨h.os, h.tape, h.output, h.size, fun k hk _ => h.block k hk⟩

/-- What stands while the program makes the fill. -/
structure FI (w : World) (gv : Value) (p eb kb rb bm capR : Nat) (B : Nat → Nat → Bool) (gone : Nat → Bool) (R : Nat → Int) (g c : Nat) (l : List Pr) (W : World) : Prop where
  bel : Below (w.heap.size + 1) (w.alloc (.cells #[.int .i64 (p : Int), gv] 45)) W
  ebx : Boxed W eb 26 (.slice (some ⟨g, 0, none⟩) l.length c)
  kbx : Boxed W kb 24 (.slice (some ⟨rb, 0, none⟩) p capR)
  rks : IHas W rb p R
  mesh : MeshAt W bm (p : Int) B gone
  own : EOwn W (w.heap.size + 1) g c l
  ne : ((g ≠ eb ∧ g ≠ kb ∧ g ≠ rb ∧ g ≠ bm) ∧ eb ≠ kb ∧ eb ≠ rb ∧ eb ≠ bm) ∧ (bm ≠ kb ∧ bm ≠ rb ∧ kb ≠ rb) ∧ w.heap.size + 1 ≤ eb ∧ w.heap.size + 1 ≤ kb ∧ w.heap.size + 1 ≤ rb ∧ w.heap.size + 1 ≤ bm
section
variable {w : World} {gv : Value} {p eb kb rb bm capR : Nat} {B : Nat → Nat → Bool} {gone : Nat → Bool} {R : Nat → Int} {g c : Nat} {l : List Pr} {W W' : World}
/-- Where nothing of these has turned. -/
theorem FI.kept (h : FI w gv p eb kb rb bm capR B gone R g c l W) {row : Option Nat} (hg : W.grownBy W' row) (hr : ∀ r, row = some r → w.heap.size + 1 ≤ r ∧ r ≠ eb ∧ r ≠ kb ∧ r ≠ rb ∧ r ≠ bm ∧ r ≠ g) : FI w gv p eb kb rb bm capR B gone R g c l W' := by
  have hz := h.bel.size
  simp at hz
  have key : ∀ x, (x = eb ∨ x = kb ∨ x = rb ∨ x = bm ∨ x = g) → some x ≠ row := fun x hx e => by
    have := hr x e.symm
    omega
  refine ⟨?_, h.ebx.kept hg (key _ (by simp)), h.kbx.kept hg (key _ (by simp)), h.rks.grown hg (key _ (by simp)), VHas.grown h.mesh hg (key _ (by simp)), h.own.grown hg (key _ (by simp)), h.ne⟩
  refine h.bel.trans ⟨hg.os, hg.tape, hg.output, hg.size, fun k hk => hg.block k (by omega) (fun e => ?_)⟩
  have := hr k e.symm
  omega
theorem FI.next (h : FI w gv p eb kb rb bm capR B gone R g c l W) (hb : Below W.heap.size W W') : FI w gv p eb kb rb bm capR B gone R g c l W' := h.kept (below_grownN (row := none) hb) (fun r e => by cases e)
theorem FI.taken (h : FI w gv p eb kb rb bm capR B gone R g c l W) {B' : Nat → Nat → Bool} {gone' : Nat → Bool} (hg : W.grownBy W' (some bm)) (hm : MeshAt W' bm (p : Int) B' gone') : FI w gv p eb kb rb bm capR B' gone' R g c l W' := by
  have hz := h.bel.size
  have hn := h.ne
  simp at hz
  exact ⟨h.bel.trans (gr_below hg (by omega) (by omega)), h.ebx.kept hg (by simp; omega), h.kbx.kept hg (by simp; omega), h.rks.grown hg (by simp; omega), hm, h.own.grown hg (by simp; omega), hn⟩
/-- Behind an append, whose answer has been put into the box. -/
theorem FI.longer (h : FI w gv p eb kb rb bm capR B gone R g c l W) (hg : W.grownBy W' (some g)) {g' c' : Nat} {l' : List Pr} (ho : EOwn W' (w.heap.size + 1) g' c' l') (hat : g' = g ∨ g' = W.heap.size) :
    FI w gv p eb kb rb bm capR B gone R g' c' l' (W'.setCell ⟨eb, 0, none⟩ (.slice (some ⟨g', 0, none⟩) l'.length c')) := by
  have hz := h.bel.size
  have hn := h.ne
  have h1 := h.own.base
  have h2 := h.ebx.lt
  have h3 := h.kbx.lt
  have h4 := h.rks.lt
  have h5 := VHas.lt h.mesh
  simp at hz
  have hs := gr_setCell W' eb 0 (.slice (some ⟨g', 0, none⟩) l'.length c')
  have he := h.ebx.kept hg (by simp; omega)
  have hz' := hg.size
  refine ⟨(h.bel.trans (gr_below hg (by omega) (by omega))).trans (gr_below hs (by omega) (by omega)), he.set _, (h.kbx.kept hg (by simp; omega)).kept hs (by simp; omega), (h.rks.grown hg (by simp; omega)).grown hs (by simp; omega), VHas.grown (VHas.grown h.mesh hg (by simp; omega)) hs (by simp; omega), ho.grown hs (by simp; omega), by omega⟩
/-- Where only what is no cells has turned. -/
theorem FI.other (h : FI w gv p eb kb rb bm capR B gone R g c l W) {row : Option Nat} (hg : W.grownBy W' row) (hr : ∀ r, row = some r → w.heap.size + 1 ≤ r ∧ ∃ o : Obj, W.heap[r]? = some o ∧ o.isCells = false) : FI w gv p eb kb rb bm capR B gone R g c l W' := by
  refine h.kept hg (fun r e => ?_)
  obtain ⟨h1, o, h2, h3⟩ := hr r e
  have key : ∀ k cur t m, W.heap[k]? = some (.cells cur t m) → r ≠ k := fun k cur t m hk e => by
    subst e
    rw [h2] at hk
    simp at hk
    subst hk
    cases h3
  obtain ⟨c1, e1, _⟩ := h.rks
  obtain ⟨c2, e2, _⟩ := h.mesh
  obtain ⟨c3, e3, _⟩ := h.own.has
  exact ⟨h1, key _ _ _ _ h.ebx, key _ _ _ _ h.kbx, key _ _ _ _ e1, key _ _ _ _ e2, key _ _ _ _ e3⟩
end

theorem allU_len {B : Nat → Nat → Bool} {P : Nat → Int} {p : Nat} (hp : p ≤ 24) : ∀ R, (allU B P p R).length ≤ 24 * R
  | 0 => Nat.le_refl _
  | R + 1 => by
    show (allU B P p R ++ rowU B P p R p).length ≤ _
    have h1 := allU_len (B := B) (P := P) hp R
    have h2 := cntB_le (sqO B P R (P R).toNat) p
    have h3 : (rowU B P p R p).length = cntB (sqO B P R (P R).toNat) p := by unfold rowU; rw [List.length_map, visF_len]
    rw [List.length_append, h3]; omega
theorem Marked.grown {W W' : World} {Ds : List Nat} {row : Option Nat} (h : Marked W Ds) (hg : W.grownBy W' row) (hr : ∀ D ∈ Ds, row = some D → False) : Marked W' Ds :=
  ⟨h.1, fun D hD => (hg.block D (Array.getElem?_eq_some_iff.1 (h.2 D hD)).1 (fun e => hr D hD e.symm)).trans (h.2 D hD)⟩
theorem keeps_cells {B0 b : Nat} {W W' : World} (hg : W.grownBy W' (some b)) (hc : ∃ cur t m, W.heap[b]? = some (.cells cur t m)) : KeepsFrom B0 W W' :=
  ⟨hg.size, fun k o _ hk ho => (hg.block k (Array.getElem?_eq_some_iff.1 hk).1 (fun e => by
    obtain ⟨cur, t, m, hc⟩ := hc
    simp at e
    rw [e, hc] at hk
    simp at hk
    subst hk
    cases ho)).trans hk⟩
theorem keeps_below {B0 : Nat} {W W' : World} (hb : Below W.heap.size W W') : KeepsFrom B0 W W' := ⟨hb.size, fun k o _ hk _ => (hb.block k (Array.getElem?_eq_some_iff.1 hk).1).trans hk⟩
/-- What stands while the neighbours of one place are gone through. -/
def FR (w : World) (gv : Value) (p eb kb rb bm capR : Nat) (B : Nat → Nat → Bool) (gone : Nat → Bool) (R : Nat → Int) (l0 : List Pr) (r a s0 : Nat) (Ds : List Nat) (pre : List Nat) (W : World) : Prop :=
  (∃ g c, FI w gv p eb kb rb bm capR B gone R g c (l0 ++ pre.map (fun q => ((r : Int), R q))) W ∧ g ≠ s0 ∧ g ≠ s0 + 1 ∧ g ≠ s0 + 1 + 1) ∧
    Boxed W s0 3 (.int .i64 (r : Int)) ∧ Boxed W (s0 + 1) 102 (.pointer (some ⟨bm, 0, none⟩)) ∧ Boxed W (s0 + 1 + 1) 2 (.int .i64 (a : Int)) ∧ Marked W Ds
theorem FR.own {w : World} {gv : Value} {p eb kb rb bm capR : Nat} {B : Nat → Nat → Bool} {gone : Nat → Bool} {R : Nat → Int} {l0 : List Pr} {r a s0 : Nat} {Ds : List Nat} {B0 : Nat} (hB : w.heap.size + 1 ≤ B0) (hD : ∀ D ∈ Ds, D < B0) : OwnFrom B0 (FR w gv p eb kb rb bm capR B gone R l0 r a s0 Ds) := by
  rintro pre X Y row ⟨⟨g, c, h1, h2⟩, h3, h4, h5, h6⟩ hg hr
  have key : ∀ k cur t m, X.heap[k]? = some (.cells cur t m) → some k ≠ row := fun k cur t m hk e => by
    obtain ⟨_, o, h2, h3⟩ := hr k e.symm
    rw [h2] at hk
    simp at hk
    subst hk
    cases h3
  refine ⟨⟨g, c, h1.other hg (fun j e => ⟨by have := (hr j e).1; omega, (hr j e).2⟩), h2⟩, h3.kept hg (key _ _ _ _ h3), h4.kept hg (key _ _ _ _ h4), h5.kept hg (key _ _ _ _ h5), h6.grown hg (fun D hD' e => ?_)⟩
  have := (hr D e).1
  have := hD D hD'
  omega

set_option maxRecDepth 100000 in
set_option maxHeartbeats 8000000 in
theorem implFill_walk (p : Nat) (ao : Option Addr) (n cap : Nat) (F T G : Nat → Int) (po : Option Addr) (pcap : Nat) (P : Nat → Int) (hp1 : 1 ≤ p) (hp : p ≤ 24) (hn : n ≤ 100) (hF : ∀ k, k < n → 0 ≤ F k ∧ F k < (p : Int)) (hT : ∀ k, k < n → 0 ≤ T k ∧ T k < (p : Int)) (hFT : ∀ k, k < n → F k ≠ T k) (hok : ordB (p : Int) n F T G p P = true) (w : World) (hr : Row w ao n F T G) (hq : IRow w po p P) :
    Calls Try.prog 56 #[.agg #[.int .i64 (p : Int), .slice ao n cap], .slice po p pcap] w fun e w' => ∃ g c, e = .returned (.slice (some ⟨g, 0, none⟩) (allS (nbA F T n) P p p).length c) ∧ (allS (nbA F T n) P p p).length ≤ c ∧ w.heap.size ≤ g ∧ ELies w' g (allS (nbA F T n) P p p) ∧ Below w.heap.size w w' := by
  have hfair : Fair (nbA F T n) := fair_nbA n (fun k hk => by have := hF k hk; have := hT k hk; have := hFT k hk; omega)
  have hwi : Within p (nbA F T n) := within_nbA n (fun k hk => by have := hF k hk; have := hT k hk; omega)
  have hmo := fun W hr' => meshOf_any p ao n cap F T G hp hn hF hT hFT W hr'
  generalize nbA F T n = B at hfair hwi hmo ⊢
  have he : eachB p P p = true := by simp [ordB, okR] at hok; exact hok.2.2.2
  have HMO : Hid (∀ W, Row W ao n F T G → Calls Try.prog 80 #[.agg #[.int .i64 (p : Int), .slice ao n cap]] W fun e w' => ∃ bm, e = .returned (.pointer (some ⟨bm, 0, none⟩)) ∧ W.heap.size ≤ bm ∧ MeshAt w' bm (p : Int) B (fun _ => false) ∧ Below W.heap.size W w') := hmo
  clear hF hT hFT hmo
  have hL : lenR p P = p := by simp [lenR, okR, he]; omega
  refine (callsIn_wide (n := 8)).1 ?_
  refine callsIn_of_wp_marks Try.func56 rfl trivial ?_ rfl
  simp only [Try.ntmps56, List.size_toArray, List.length_cons, List.length_nil, Nat.reduceAdd, Nat.reduceSub, Array.replicate_succ, Array.replicate_zero, List.push_toArray, List.append_toArray, List.nil_append, List.cons_append]
  gi_wp2_with fail
  refine ⟨trivial, ?_⟩
  have hA0 : Below (w.heap.size + 1) (w.alloc (.cells #[.int .i64 (p : Int), .slice ao n cap] 45)) (((w.alloc (.cells #[.int .i64 (p : Int), .slice ao n cap] 45)).alloc (.cells #[] 64)).alloc (.cells #[.slice (some ⟨w.heap.size + 1, 0, none⟩) 0 0] 26)) := ((Below.refl _ _).alloc (by simp) _).alloc (by simp) _
  have hE0 : EOwn (((w.alloc (.cells #[.int .i64 (p : Int), .slice ao n cap] 45)).alloc (.cells #[] 64)).alloc (.cells #[.slice (some ⟨w.heap.size + 1, 0, none⟩) 0 0] 26)) (w.heap.size + 1) (w.heap.size + 1) 0 [] := by
    have := EOwn.empty (w.alloc (.cells #[.int .i64 (p : Int), .slice ao n cap] 45)) (base := w.heap.size + 1) (by simp)
    simp only [World.size_alloc] at this
    exact this.next ((Below.refl _ _).alloc (Nat.le_refl _) _)
  have hX0 : Boxed (((w.alloc (.cells #[.int .i64 (p : Int), .slice ao n cap] 45)).alloc (.cells #[] 64)).alloc (.cells #[.slice (some ⟨w.heap.size + 1, 0, none⟩) 0 0] 26)) (w.heap.size + 1 + 1) 26 (.slice (some ⟨w.heap.size + 1, 0, none⟩) 0 0) := by
    have := Boxed.new ((w.alloc (.cells #[.int .i64 (p : Int), .slice ao n cap] 45)).alloc (.cells #[] 64)) 26 (.slice (some ⟨w.heap.size + 1, 0, none⟩) 0 0)
    simp only [World.size_alloc] at this
    exact this
  refine (callsIn_wide.2 (implOrderOk_any (p : Int) ao n cap F T G po p pcap P (by omega) (by omega) _ ((hr.alloc _).below hA0 (by simp)) ((hq.alloc _).below hA0 (by simp)))).mono ?_
  rintro e w1 ⟨rfl, hb1⟩
  have hA1 := below_next hA0 (by simp) hb1
  have hE1 := hE0.next hb1
  have hX1 := hX0.kept (below_grownN (row := none) hb1) (by simp)
  clear hA0 hE0 hX0 hb1
  rw [hok]
  obtain ⟨x0, x1, xs⟩ := box2 hA1
  gi_wp2_with fail
  refine ⟨trivial, ?_⟩
  refine (callsIn_wide.2 (implRanks_any po p pcap P (by omega) _ ((hq.alloc _).below hA1 (by simp)))).mono ?_
  rintro e w2 ⟨aoR, capR, rfl, hR, hb2⟩
  rw [hL] at hR ⊢
  obtain ⟨rb, rfl, hrb, hR2⟩ := hR (by omega)
  have hA2 := below_next hA1 (by simp) hb2
  have hE2 := hE1.next hb2
  have hX2 := hX1.kept (below_grownN (row := none) hb2) (by simp)
  have hel := hE1.lt
  have hxl := hX1.lt
  clear hA1 hE1 hX1 hR x0 x1
  obtain ⟨x0, x1, xs2⟩ := box2 hA2
  gi_wp2_with fail
  refine ⟨trivial, ?_⟩
  have hal := (Below.refl w2.heap.size w2).alloc (Nat.le_refl _) (.cells #[.slice (some ⟨rb, 0, none⟩) p capR] 24)
  have hA3 := below_next hA2 (by simp) hal
  have hK3 := Boxed.new w2 24 (.slice (some ⟨rb, 0, none⟩) p capR)
  refine (callsIn_wide.2 (HMO.out _ ((hr.alloc _).below hA3 (by simp)))).mono ?_
  rintro e w4 ⟨bm, rfl, hbm, hM4, hb4⟩
  have hml := VHas.lt hM4
  have hrl := hR2.lt
  have hsz2 := hb2.size
  have hI4 : FI w (.slice ao n cap) p (w.heap.size + 1 + 1) w2.heap.size rb bm capR B (fun _ => false) (rk P (-1) p) (w.heap.size + 1) 0 [] w4 := by
    refine ⟨below_next hA3 (by simp) hb4, ?_, ?_, ?_, hM4, (hE2.next hal).next hb4, ?_⟩
    · exact (hX2.alloc _).kept (below_grownN (row := none) hb4) (by simp)
    · exact hK3.kept (below_grownN (row := none) hb4) (by simp)
    · exact (hR2.below hal hrl).below hb4 (by simp; omega)
    · simp at hbm
      omega
  simp only [World.size_alloc] at hbm
  clear hA2 hA3 hE2 hX2 hK3 hR2 hM4 hb4 hb2 hal x0 x1
  generalize w2.heap.size = kb at hI4 hbm hrl ⊢
  gi_wp2_with fail
  refine wpIn_loop (fun a' w' => ∃ (r g c : Nat) (gone : Nat → Bool) (Ds : List Nat) (u8 u9 u24 u25 u26 u27 u28 u29 u30 u41 u42 u43 u44 : Value), (r ≤ p ∧ Marked w' Ds ∧ (∀ D ∈ Ds, w.heap.size + 1 ≤ D) ∧ FI w (.slice ao n cap) p (w.heap.size + 1 + 1) kb rb bm capR (sqO B P r) gone (rk P (-1) p) g c (allU B P p r) w') ∧ a' = { tmps := #[.agg #[.int .i64 (p : Int), .slice ao n cap], .slice po p pcap, .pointer (some ⟨w.heap.size, 0, none⟩), undef, .slice none 0 0, .pointer (some ⟨w.heap.size + 1 + 1, 0, none⟩), .pointer (some ⟨kb, 0, none⟩), .pointer (some ⟨bm, 0, none⟩), u8, u9, undef, .slice (some ⟨w.heap.size + 1, 0, none⟩) 0 0, .agg #[.int .i64 (p : Int), .slice ao n cap], .slice po p pcap, .bool true, .bool false, undef, .slice po p pcap, .slice (some ⟨rb, 0, none⟩) p capR, .agg #[.int .i64 (p : Int), .slice ao n cap], .pointer (some ⟨bm, 0, none⟩), .slice po p pcap, .int .i64 (p : Int), .int .i64 (r : Int), u24, u25, u26, u27, u28, u29, u30, undef, undef, undef, undef, undef, undef, undef, undef, undef, undef, u41, u42, u43, u44, undef, undef, undef], defers := marks Ds }) (fun a' _ => p - (intOf (a'.tmps.getD 23 undef)).toNat) ?start ?round
  case start => exact ⟨0, _, _, _, [], _, _, _, _, _, _, _, _, _, _, _, _, _, ⟨Nat.zero_le _, ⟨List.nodup_nil, fun D hD => by cases hD⟩, (fun D hD => by cases hD), hI4⟩, rfl⟩
  case round =>
    clear hI4
    rintro a1 wr ⟨r, g, c, gone, Ds, u8, u9, u24, u25, u26, u27, u28, u29, u30, u41, u42, u43, u44, ⟨hrp, hMk, hDg, hI⟩, rfl⟩
    by_cases hlt : r < p
    rotate_left
    · have e : r = p := by omega
      subst e
      have c1 := hI.ebx.cell
      have hlen := allU_len (B := B) (P := P) hp r
      gi_wp2_with fail
      refine ⟨trivial, ?_⟩
      refine (callsIn_wide.2 (sortBy_any g c (allU B P r r) (by omega) wr hI.own.has)).mono ?_
      rintro e w6 ⟨rfl, ⟨l', hl1, hl2, hl3, hl4⟩, hg6⟩
      have hfs := fill_same hfair he hl2 hl3
      subst hfs
      have hne := hI.ne
      have hgb := hI.own.base
      have c2 := (hI.ebx.kept hg6 (by simp; omega)).cell
      have hz := hI.bel.size
      simp at hz
      have hbel6 := hI.bel.trans (gr_below hg6 (by omega) (by omega))
      have hMk6 : Marked w6 Ds := hMk.grown hg6 (fun D hD e => by
        have h1 := hMk.2 D hD
        obtain ⟨cc, h2, _⟩ := hI.own.has
        simp at e
        subst e
        rw [h1] at h2
        cases h2)
      gi_wp2
      refine leaves_marks Ds _ hMk6 (fun w' h1 h2 h3 h4 h5 => ?_)
      have hnl : g ∉ Ds := fun hD => by
        have h1 := hMk.2 g hD
        obtain ⟨cc, h2, _⟩ := hI.own.has
        rw [h1] at h2
        cases h2
      refine ⟨_, results_tmp rfl _ _ _, g, c, by rw [hl1]; rfl, by have h := hI.own.room; omega, by omega, EHas.of_block hl4 (h5 g hnl), ?_⟩
      have hub := unbox hbel6 (Nat.le_succ _)
      exact ⟨h1.trans hub.os, h2.trans hub.tape, h3.trans hub.output, by rw [h4]; exact hub.size, fun k hk => (h5 k (fun hD => by have := hDg k hD; omega)).trans (hub.block k hk)⟩
    have hlt' : (r : Int) < (p : Int) := by omega
    have hr0 : (0 : Int) ≤ (r : Int) := by omega
    obtain ⟨ha0, ha1⟩ := (each_in p he r hlt).1
    obtain ⟨a, ha⟩ : ∃ a : Nat, P r = (a : Int) := ⟨(P r).toNat, by omega⟩
    have hap : a < p := by omega
    obtain ⟨b, o, hpo, c0⟩ := ((hq.alloc _).below hI.bel (by simp)) r hlt
    subst hpo
    rw [ha] at c0
    gi_wp2_with fail
    refine ⟨trivial, ?_⟩
    refine (callsIn_wide.2 (neighbours_any bm (a : Int) _)).mono ?_
    rintro e w5 ⟨rfl, rfl⟩
    have hz := hI.bel.size
    simp at hz
    have hgl := hI.own.lt
    have hmb := VHas.lt hI.mesh
    have hkl := hI.kbx.lt
    have hrl2 := hI.rks.lt
    have hxl2 := hI.ebx.lt
    have bR := ((Boxed.new wr 3 (.int .i64 (r : Int))).alloc (.cells #[.pointer (some ⟨bm, 0, none⟩)] 102)).alloc (.cells #[.int .i64 (a : Int)] 2)
    have bM := (Boxed.new (wr.alloc (.cells #[.int .i64 (r : Int)] 3)) 102 (.pointer (some ⟨bm, 0, none⟩))).alloc (.cells #[.int .i64 (a : Int)] 2)
    have bP := Boxed.new ((wr.alloc (.cells #[.int .i64 (r : Int)] 3)).alloc (.cells #[.pointer (some ⟨bm, 0, none⟩)] 102)) 2 (.int .i64 (a : Int))
    simp only [World.size_alloc] at bM bP
    have hB0 : Below wr.heap.size wr (((wr.alloc (.cells #[.int .i64 (r : Int)] 3)).alloc (.cells #[.pointer (some ⟨bm, 0, none⟩)] 102)).alloc (.cells #[.int .i64 (a : Int)] 2)) := (((Below.refl _ wr).alloc (Nat.le_refl _) _).alloc (by simp) _).alloc (by simp; omega) _
    have hI5 := hI.next hB0
    have hMk5 : Marked (((wr.alloc (.cells #[.int .i64 (r : Int)] 3)).alloc (.cells #[.pointer (some ⟨bm, 0, none⟩)] 102)).alloc (.cells #[.int .i64 (a : Int)] 2)) Ds := hMk.grown (below_grownN (row := none) hB0) (fun D _ e => by cases e)
    have hsz : (((wr.alloc (.cells #[.int .i64 (r : Int)] 3)).alloc (.cells #[.pointer (some ⟨bm, 0, none⟩)] 102)).alloc (.cells #[.int .i64 (a : Int)] 2)).heap.size = wr.heap.size + 3 := by simp
    generalize ((wr.alloc (.cells #[.int .i64 (r : Int)] 3)).alloc (.cells #[.pointer (some ⟨bm, 0, none⟩)] 102)).alloc (.cells #[.int .i64 (a : Int)] 2) = W0 at bR bM bP hB0 hI5 hMk5 hsz ⊢
    clear hI hMk c0
    have hDl : ∀ D ∈ Ds, D < W0.heap.size := fun D hD => (Array.getElem?_eq_some_iff.1 (hMk5.2 D hD)).1
    gi_wp2
    refine range_alone rfl (by omega) (gf := 101) (lb := #[.pointer (some ⟨wr.heap.size + 1, 0, none⟩), .pointer (some ⟨wr.heap.size + 1 + 1, 0, none⟩)]) rfl trivial (enters_of Try.func101 (by kernel_rfl) rfl)
      (encs := fun x : Nat => #[Value.int .i64 (x : Int)]) (fun _ => rfl) (FR w (.slice ao n cap) p (w.heap.size + 1 + 1) kb rb bm capR (sqO B P r) gone (rk P (-1) p) (allU B P p r) r a wr.heap.size Ds) ?own ?h0
      (iter_seq 7 (by omega) (wr.heap.size + 1) (wr.heap.size + 1 + 1) bm p a hp (by omega) _ (fun _ => sqO B P r a) ?reads (fun pre x => x < p ∧ pre.length ≤ 24) (fun k hk _ => ⟨hk, by
        have h1 := visF_len (sqO B P r a) k
        have h2 := cntB_le (sqO B P r a) k
        unfold visF at h1
        omega⟩) W0)
      (fun x a' _ => a' = { tmps := #[.agg #[.int .i64 (p : Int), .slice ao n cap], .slice (some ⟨b, o, none⟩) p pcap, .pointer (some ⟨w.heap.size, 0, none⟩), undef, .slice none 0 0, .pointer (some ⟨w.heap.size + 1 + 1, 0, none⟩), .pointer (some ⟨kb, 0, none⟩), .pointer (some ⟨bm, 0, none⟩), .pointer (some ⟨wr.heap.size, 0, none⟩), .int .i64 (a : Int), .int .i64 (x : Int), .slice (some ⟨w.heap.size + 1, 0, none⟩) 0 0, .agg #[.int .i64 (p : Int), .slice ao n cap], .slice (some ⟨b, o, none⟩) p pcap, .bool true, .bool false, undef, .slice (some ⟨b, o, none⟩) p pcap, .slice (some ⟨rb, 0, none⟩) p capR, .agg #[.int .i64 (p : Int), .slice ao n cap], .pointer (some ⟨bm, 0, none⟩), .slice (some ⟨b, o, none⟩) p pcap, .int .i64 (p : Int), .int .i64 (r : Int), .bool true, .int .i64 (r : Int), .pointer (some ⟨b, o + r, none⟩), .int .i64 (a : Int), .pointer (some ⟨bm, 0, none⟩), .int .i64 (a : Int), .func (.func 101) #[] #[.pointer (some ⟨wr.heap.size + 1, 0, none⟩), .pointer (some ⟨wr.heap.size + 1 + 1, 0, none⟩)], .int .i64 (x : Int), undef, undef, undef, undef, undef, undef, undef, undef, undef, u41, u42, u43, u44, undef, undef, undef], defers := [] })
      (fun _ _ _ _ _ _ hs _ _ => hs)
      ?assign ?body ?done
    case own => exact FR.own (by omega) hDl
    case h0 => exact ⟨⟨g, c, by simpa using hI5, by omega, by omega, by omega⟩, bR, bM, bP, hMk5⟩
    case reads =>
      rintro pre W ⟨⟨g', c', h1, _⟩, _, h3, h4, _⟩
      exact Reads.of_mesh (by omega) h3.cell h4.cell h1.mesh
    case assign =>
      rintro l pre x W K hi _ hK
      gi_wp2
      exact hK _ _ (KeepsFrom.refl _ _) hi rfl
    case body =>
      rintro l pre x a' W hl hrec hi ⟨hxp, hpl⟩ rfl
      gi_wp2
      obtain ⟨⟨g', c', hF, n1, n2, n3⟩, bR', bM', bP', hMk'⟩ := hi
      have hlU := allU_len (B := B) (P := P) hp r
      have hl24 : (allU B P p r ++ pre.map (fun q => ((r : Int), rk P (-1) p q))).length ≤ 1000000 := by
        rw [List.length_append, List.length_map]
        omega
      have hsn : allU B P p r ++ (pre ++ [x]).map (fun q => ((r : Int), rk P (-1) p q)) = allU B P p r ++ pre.map (fun q => ((r : Int), rk P (-1) p q)) ++ [((r : Int), rk P (-1) p x)] := by simp
      have HSN : Hid (allU B P p r ++ (pre ++ [x]).map (fun q => ((r : Int), rk P (-1) p q)) = allU B P p r ++ pre.map (fun q => ((r : Int), rk P (-1) p q)) ++ [((r : Int), rk P (-1) p x)]) := hsn
      clear hsn
      generalize allU B P p r ++ pre.map (fun q => ((r : Int), rk P (-1) p q)) = l1 at hF hl24 HSN
      have e0 := hF.ebx.cell
      have z0 := hF.ebx.frozen
      have e1 := bR'.cell
      have e2 := hF.kbx.cell
      have e5 := hF.rks.cell hxp
      have hxp' : (x : Int) < (p : Int) := by omega
      have hx0 : (0 : Int) ≤ (x : Int) := by omega
      have hS0 : (fun V : World => V.cell? ⟨wr.heap.size, 0, none⟩ = some (.int .i64 (r : Int)) ∧ V.cell? ⟨kb, 0, none⟩ = some (.slice (some ⟨rb, 0, none⟩) p capR) ∧ V.cell? ⟨rb, x, none⟩ = some (.int .i64 (rk P (-1) p x))) W.drew := ⟨e1, e2, e5⟩
      refine region_round (fun V : World => V.cell? ⟨wr.heap.size, 0, none⟩ = some (.int .i64 (r : Int)) ∧ V.cell? ⟨kb, 0, none⟩ = some (.slice (some ⟨rb, 0, none⟩) p capR) ∧ V.cell? ⟨rb, x, none⟩ = some (.int .i64 (rk P (-1) p x))) (by kernel_rfl) (by kernel_rfl) (fun ⟨_, _, h⟩ => by simp [Exit.inBlock, roundQ] at h) ?_
      refine wpAnyH_take (i := 3) (v := .int .i64 (x : Int)) rfl (by kernel_rfl) (by kernel_rfl) (by kernel_rfl) (fun _ _ _ h => h) (Or.inl ⟨by rfl, fun V hV => ?_⟩) hS0 ?_
      · obtain ⟨v1, v2, v3⟩ := hV
        go_simp
      simp only [Act.put, List.setIfInBounds_toArray, List.set_cons_succ, List.set_cons_zero]
      refine wpAnyH_take (i := 2) (v := .slice (some ⟨rb, 0, none⟩) p capR) rfl (by kernel_rfl) (by kernel_rfl) (by kernel_rfl) (fun _ _ _ h => h) (Or.inl ⟨by rfl, fun V hV => ?_⟩) hS0 ?_
      · obtain ⟨v1, v2, v3⟩ := hV
        go_simp
      simp only [Act.put, List.setIfInBounds_toArray, List.set_cons_succ, List.set_cons_zero]
      refine wpAnyH_take (i := 4) (v := .pointer (some ⟨rb, x, none⟩)) rfl (by kernel_rfl) (by kernel_rfl) (by kernel_rfl) (fun _ _ _ h => h) (Or.inl ⟨by rfl, fun V hV => ?_⟩) hS0 ?_
      · obtain ⟨v1, v2, v3⟩ := hV
        go_simp
      simp only [Act.put, List.setIfInBounds_toArray, List.set_cons_succ, List.set_cons_zero]
      refine wpAnyH_take (i := 5) (v := .int .i64 (rk P (-1) p x)) rfl (by kernel_rfl) (by kernel_rfl) (by kernel_rfl) (fun _ _ _ h => h) (Or.inl ⟨by rfl, fun V hV => ?_⟩) hS0 ?_
      · obtain ⟨v1, v2, v3⟩ := hV
        go_simp
      simp only [Act.put, List.setIfInBounds_toArray, List.set_cons_succ, List.set_cons_zero]
      refine wpAnyH_take (i := 1) (v := .int .i64 (r : Int)) rfl (by kernel_rfl) (by kernel_rfl) (by kernel_rfl) (fun _ _ _ h => h) (Or.inl ⟨by rfl, fun V hV => ?_⟩) hS0 ?_
      · obtain ⟨v1, v2, v3⟩ := hV
        go_simp
      simp only [Act.put, List.setIfInBounds_toArray, List.set_cons_succ, List.set_cons_zero]
      refine wpAnyH_take (i := 6) (v := .agg #[.int .i64 (r : Int), .int .i64 (rk P (-1) p x)]) rfl (by kernel_rfl) (by kernel_rfl) (by kernel_rfl) (fun _ _ _ h => h) (Or.inl ⟨by rfl, fun V hV => ?_⟩) hS0 ?_
      · obtain ⟨v1, v2, v3⟩ := hV
        go_simp
      simp only [Act.put, List.setIfInBounds_toArray, List.set_cons_succ, List.set_cons_zero]
      have hWA : Below W.heap.size W (W.alloc (.cells #[.int .i64 (r : Int), .int .i64 (rk P (-1) p x)] 64)).drew := ((Below.refl _ _).alloc (Nat.le_refl _) _).drew
      have hFA := hF.next hWA
      have eA0 := hFA.ebx.cell
      have hA0 : (W.alloc (.cells #[.int .i64 (r : Int), .int .i64 (rk P (-1) p x)] 64)).drew.cell? ⟨W.heap.size, 0, none⟩ = some (.int .i64 (r : Int)) := by simp [go_sem]
      have hA1 : (W.alloc (.cells #[.int .i64 (r : Int), .int .i64 (rk P (-1) p x)] 64)).drew.cell? ⟨W.heap.size, 1, none⟩ = some (.int .i64 (rk P (-1) p x)) := by simp [go_sem]
      have hAb : w.heap.size + 1 ≤ (W.alloc (.cells #[.int .i64 (r : Int), .int .i64 (rk P (-1) p x)] 64)).drew.heap.size := by have := hFA.bel.size; simpa using this
      have hFn := hF.ne
      have hS1 : (fun V : World => V.cell? ⟨wr.heap.size, 0, none⟩ = some (.int .i64 (r : Int)) ∧ V.cell? ⟨kb, 0, none⟩ = some (.slice (some ⟨rb, 0, none⟩) p capR) ∧ V.cell? ⟨rb, x, none⟩ = some (.int .i64 (rk P (-1) p x))) (W.alloc (.cells #[.int .i64 (r : Int), .int .i64 (rk P (-1) p x)] 64)).drew := ⟨keep_cell hWA (Nat.le_refl _) e1, keep_cell hWA (Nat.le_refl _) e2, keep_cell hWA (Nat.le_refl _) e5⟩
      refine wpAnyH_ready (rs := [0, 7]) (by kernel_rfl) (by simp) (AllReadyH.cons rfl (fun K hK => ?first) (AllReadyH.cons rfl (fun K hK => ?second) AllReadyH.nil))
      case first =>
        go_simp
        refine hK.out _ _ hS0 (fun _ => ?_)
        clear hK K
        refine wpAnyH_ready (rs := [7]) (by kernel_rfl) (by simp) (AllReadyH.cons rfl (fun K hK => ?_) AllReadyH.nil)
        go_simp
        refine hK.out _ _ hS1 (fun _ => ?_)
        clear hK K
        refine wpAnyH_ready (rs := [8]) (by kernel_rfl) (by simp) (AllReadyH.cons rfl (fun K hK => ?_) AllReadyH.nil)
        refine step_append_edge rfl (.tmp 32) (.tmp 39) rfl (w.heap.size + 1) g' c' l1 rfl hFA.own W.heap.size 1 (r : Int) (rk P (-1) p x) rfl hA0 hA1 hl24 hAb ?_
        intro g2 c2 w7 hown7 hgrow7 hat7
        have q1 : w7.cell? ⟨w.heap.size + 1 + 1, 0, none⟩ = some (.slice (some ⟨g', 0, none⟩) l1.length c') := hgrow7.cell eA0 (by simp; omega)
        have q2 : w7.frozen? ⟨w.heap.size + 1 + 1, 0, none⟩ = false := (hFA.ebx.kept hgrow7 (by simp; omega)).frozen
        have hS7 : (fun V : World => V.cell? ⟨wr.heap.size, 0, none⟩ = some (.int .i64 (r : Int)) ∧ V.cell? ⟨kb, 0, none⟩ = some (.slice (some ⟨rb, 0, none⟩) p capR) ∧ V.cell? ⟨rb, x, none⟩ = some (.int .i64 (rk P (-1) p x))) w7 := ⟨hgrow7.cell hS1.1 (by simp; omega), hgrow7.cell hS1.2.1 (by simp; omega), hgrow7.cell hS1.2.2 (by simp; omega)⟩
        have hS8 : (fun V : World => V.cell? ⟨wr.heap.size, 0, none⟩ = some (.int .i64 (r : Int)) ∧ V.cell? ⟨kb, 0, none⟩ = some (.slice (some ⟨rb, 0, none⟩) p capR) ∧ V.cell? ⟨rb, x, none⟩ = some (.int .i64 (rk P (-1) p x))) (w7.setCell ⟨w.heap.size + 1 + 1, 0, none⟩ (.slice (some ⟨g2, 0, none⟩) (l1.length + 1) c2)) := by
          have hs := gr_setCell w7 (w.heap.size + 1 + 1) 0 (.slice (some ⟨g2, 0, none⟩) (l1.length + 1) c2)
          exact ⟨hs.cell hS7.1 (by simp; omega), hs.cell hS7.2.1 (by simp; omega), hs.cell hS7.2.2 (by simp; omega)⟩
        have hF8 := hFA.longer hgrow7 hown7 hat7
        rw [List.length_append] at hF8
        refine hK.out _ _ hS7 (fun _ => ?_)
        clear hK K
        simp only [Act.put, List.setIfInBounds_toArray, List.set_cons_succ, List.set_cons_zero]
        refine wpAnyH_ready (rs := [9]) (by kernel_rfl) (by simp) (AllReadyH.cons rfl (fun K hK => ?_) AllReadyH.nil)
        go_simp
        refine hK.out _ _ hS8 (fun _ => ?_)
        clear hK K
        refine wpAnyH_done (by kernel_rfl) ?_ _
        have hPl := bP'.lt
        have hg2 : g2 = g' ∨ g2 = W.heap.size + 1 := by simpa using hat7
        have hst := gr_setCell w7 (w.heap.size + 1 + 1) 0 (.slice (some ⟨g2, 0, none⟩) (l1.length + 1) c2)
        have hEc := hFA.own.has
        have hMA := hMk'.grown (below_grownN (row := none) hWA) (fun D _ e => by cases e)
        refine ⟨rfl, ((keeps_below hWA).trans (keeps_cells hgrow7 (by obtain ⟨cc, h2, _⟩ := hEc; exact ⟨_, _, _, h2⟩))).trans (keeps_cells hst ⟨_, _, _, hFA.ebx.kept hgrow7 (by simp; omega)⟩), ⟨g2, c2, by rw [HSN.out]; exact hF8, by omega, by omega, by omega⟩, ?_, ?_, ?_, ?_⟩
        · exact ((bR'.kept (below_grownN (row := none) hWA) (by simp)).kept hgrow7 (by simp; omega)).kept hst (by simp; omega)
        · exact ((bM'.kept (below_grownN (row := none) hWA) (by simp)).kept hgrow7 (by simp; omega)).kept hst (by simp; omega)
        · exact ((bP'.kept (below_grownN (row := none) hWA) (by simp)).kept hgrow7 (by simp; omega)).kept hst (by simp; omega)
        · refine (hMA.grown hgrow7 (fun D hD e => ?_)).grown hst (fun D hD e => ?_)
          · simp at e
            subst e
            obtain ⟨cc, h2, _⟩ := hEc
            have := hMA.2 _ hD
            rw [h2] at this
            cases this
          · simp at e
            have := hMk'.2 D hD
            rw [← e] at this
            have h2 := hF.ebx
            unfold Boxed at h2
            rw [h2] at this
            cases this
      case second =>
        go_simp
        refine hK.out _ _ hS1 (fun _ => ?_)
        clear hK K
        refine wpAnyH_ready (rs := [0]) (by kernel_rfl) (by simp) (AllReadyH.cons rfl (fun K hK => ?_) AllReadyH.nil)
        go_simp
        refine hK.out _ _ hS1 (fun _ => ?_)
        clear hK K
        refine wpAnyH_ready (rs := [8]) (by kernel_rfl) (by simp) (AllReadyH.cons rfl (fun K hK => ?_) AllReadyH.nil)
        refine step_append_edge rfl (.tmp 32) (.tmp 39) rfl (w.heap.size + 1) g' c' l1 rfl hFA.own W.heap.size 1 (r : Int) (rk P (-1) p x) rfl hA0 hA1 hl24 hAb ?_
        intro g2 c2 w7 hown7 hgrow7 hat7
        have q1 : w7.cell? ⟨w.heap.size + 1 + 1, 0, none⟩ = some (.slice (some ⟨g', 0, none⟩) l1.length c') := hgrow7.cell eA0 (by simp; omega)
        have q2 : w7.frozen? ⟨w.heap.size + 1 + 1, 0, none⟩ = false := (hFA.ebx.kept hgrow7 (by simp; omega)).frozen
        have hS7 : (fun V : World => V.cell? ⟨wr.heap.size, 0, none⟩ = some (.int .i64 (r : Int)) ∧ V.cell? ⟨kb, 0, none⟩ = some (.slice (some ⟨rb, 0, none⟩) p capR) ∧ V.cell? ⟨rb, x, none⟩ = some (.int .i64 (rk P (-1) p x))) w7 := ⟨hgrow7.cell hS1.1 (by simp; omega), hgrow7.cell hS1.2.1 (by simp; omega), hgrow7.cell hS1.2.2 (by simp; omega)⟩
        have hS8 : (fun V : World => V.cell? ⟨wr.heap.size, 0, none⟩ = some (.int .i64 (r : Int)) ∧ V.cell? ⟨kb, 0, none⟩ = some (.slice (some ⟨rb, 0, none⟩) p capR) ∧ V.cell? ⟨rb, x, none⟩ = some (.int .i64 (rk P (-1) p x))) (w7.setCell ⟨w.heap.size + 1 + 1, 0, none⟩ (.slice (some ⟨g2, 0, none⟩) (l1.length + 1) c2)) := by
          have hs := gr_setCell w7 (w.heap.size + 1 + 1) 0 (.slice (some ⟨g2, 0, none⟩) (l1.length + 1) c2)
          exact ⟨hs.cell hS7.1 (by simp; omega), hs.cell hS7.2.1 (by simp; omega), hs.cell hS7.2.2 (by simp; omega)⟩
        have hF8 := hFA.longer hgrow7 hown7 hat7
        rw [List.length_append] at hF8
        refine hK.out _ _ hS7 (fun _ => ?_)
        clear hK K
        simp only [Act.put, List.setIfInBounds_toArray, List.set_cons_succ, List.set_cons_zero]
        refine wpAnyH_ready (rs := [9]) (by kernel_rfl) (by simp) (AllReadyH.cons rfl (fun K hK => ?_) AllReadyH.nil)
        go_simp
        refine hK.out _ _ hS8 (fun _ => ?_)
        clear hK K
        refine wpAnyH_done (by kernel_rfl) ?_ _
        have hPl := bP'.lt
        have hg2 : g2 = g' ∨ g2 = W.heap.size + 1 := by simpa using hat7
        have hst := gr_setCell w7 (w.heap.size + 1 + 1) 0 (.slice (some ⟨g2, 0, none⟩) (l1.length + 1) c2)
        have hEc := hFA.own.has
        have hMA := hMk'.grown (below_grownN (row := none) hWA) (fun D _ e => by cases e)
        refine ⟨rfl, ((keeps_below hWA).trans (keeps_cells hgrow7 (by obtain ⟨cc, h2, _⟩ := hEc; exact ⟨_, _, _, h2⟩))).trans (keeps_cells hst ⟨_, _, _, hFA.ebx.kept hgrow7 (by simp; omega)⟩), ⟨g2, c2, by rw [HSN.out]; exact hF8, by omega, by omega, by omega⟩, ?_, ?_, ?_, ?_⟩
        · exact ((bR'.kept (below_grownN (row := none) hWA) (by simp)).kept hgrow7 (by simp; omega)).kept hst (by simp; omega)
        · exact ((bM'.kept (below_grownN (row := none) hWA) (by simp)).kept hgrow7 (by simp; omega)).kept hst (by simp; omega)
        · exact ((bP'.kept (below_grownN (row := none) hWA) (by simp)).kept hgrow7 (by simp; omega)).kept hst (by simp; omega)
        · refine (hMA.grown hgrow7 (fun D hD e => ?_)).grown hst (fun D hD e => ?_)
          · simp at e
            subst e
            obtain ⟨cc, h2, _⟩ := hEc
            have := hMA.2 _ hD
            rw [h2] at this
            cases this
          · simp at e
            have := hMk'.2 D hD
            rw [← e] at this
            have h2 := hF.ebx
            unfold Boxed at h2
            rw [h2] at this
            cases this
    case done =>
      rintro D xs W hD rfl ⟨⟨g', c', hF, n1, n2, n3⟩, bR', bM', bP', hMk'⟩ hK
      have hrw : allU B P p (r + 1) = allU B P p r ++ (vis (fun _ => sqO B P r a) p).map (fun q => ((r : Int), rk P (-1) p q)) := by
        show allU B P p r ++ rowU B P p r p = _
        unfold rowU visF
        rw [show (P r).toNat = a by omega]
      rw [← hrw] at hF
      gi_wp2_with fail
      refine ⟨trivial, ?_⟩
      refine (callsIn_wide.2 (takeAway_any bm p a (sqO B P r) gone hp hap (sqO_fair hfair P r) (sqO_within hwi P r) W hF.mesh)).mono ?_
      rintro e w8 ⟨rfl, hM8, hg8⟩
      have hF8 := hF.taken hg8 hM8
      have hsq : sqO B P (r + 1) = tk (sqO B P r) a := by
        show tk (sqO B P r) (P r).toNat = _
        rw [show (P r).toNat = a by omega]
      rw [← hsq] at hF8
      have hmne : ∀ E, W.heap[E]? = some (.deferred (some [])) → E ≠ bm := fun E hE e => by
        obtain ⟨cc, h2, _⟩ := hF.mesh
        rw [e, h2] at hE
        cases hE
      have hMk8 : Marked w8 (D :: Ds) := by
        refine Marked.grown (W := W) ⟨List.nodup_cons.2 ⟨fun hD' => ?_, hMk'.1⟩, fun E hE => ?_⟩ hg8 (fun E hE e => ?_)
        · have := hDl D hD'
          omega
        · simp at hE
          rcases hE with rfl | hE
          · exact hK
          · exact hMk'.2 E hE
        · simp at e hE
          rcases hE with rfl | hE
          · exact hmne _ hK e.symm
          · exact hmne _ (hMk'.2 E hE) e.symm
      gi_wp2
      refine ⟨⟨r + 1, g', c', _, D :: Ds, _, _, _, _, _, _, _, _, _, _, _, _, _, ⟨by omega, hMk8, fun E hE => ?_, hF8⟩, by rw [show ((r + 1 : Nat) : Int) = (r : Int) + 1 by omega]; rfl⟩, ?_⟩
      · simp at hE
        rcases hE with rfl | hE
        · omega
        · exact hDg E hE
      · simp [intOf]; omega

end Go.Proofs.Ytganjllofgggjag

/-
  The fill's list: the plain part.
-/
set_option linter.unusedVariables false
set_option linter.unusedSimpArgs false
namespace Go.Proofs.Ytganjllofgggjag
open Go.RowKit
attribute [local go_sem ↓] Go.wp_at_zero Go.wp_at_succ

def lstF (p : Int) (n : Nat) (F T : Nat → Int) (P : Nat → Int) : List Pr := allS (nbA F T n) P p.toNat p.toNat
def lenF (p : Int) (n : Nat) (F T G : Nat → Int) (m : Nat) (P : Nat → Int) : Nat := if ordB p n F T G m P then (lstF p n F T P).length else 0
theorem ordB_parts {p : Int} {n : Nat} {F T G : Nat → Int} {m : Nat} {P : Nat → Int} (h : ordB p n F T G m P = true) : (m : Int) = p ∧ graphB p n F T G = true ∧ (1 ≤ m ∧ m ≤ 24) ∧ eachB m P m = true := by
  simp [ordB, okR] at h
  exact ⟨h.2.1, h.1, ⟨h.2.2.1, h.2.2.2.1⟩, h.2.2.2.2⟩
theorem lenF_le (p : Int) (n : Nat) (F T G : Nat → Int) (m : Nat) (P : Nat → Int) : lenF p n F T G m P ≤ 1000 := by
  unfold lenF
  split
  · next h =>
    obtain ⟨h1, _, h2, _⟩ := ordB_parts h
    have hp : p.toNat ≤ 24 := by omega
    have := allS_len (B := nbA F T n) (P := P) hp p.toNat
    unfold lstF
    omega
  · omega

end Go.Proofs.Ytganjllofgggjag

/-
  The fill at every map and every list: the document's and the program's answer, in new memory.
-/
set_option linter.unusedVariables false
set_option linter.unusedSimpArgs false
namespace Go.Proofs.Ytganjllofgggjag
open Go.RowKit
attribute [local go_sem ↓] Go.wp_at_zero Go.wp_at_succ

/-- An answer in new memory, as long as its room allows. -/
def ERoom (w w' : World) (e : Ending) (m : Nat) (L H : Nat → Int) : Prop := ∃ ao cap, e = .returned (.slice ao m cap) ∧ m ≤ cap ∧ (0 < m → ∃ g, ao = some ⟨g, 0, none⟩ ∧ w.heap.size ≤ g ∧ EHas w' g m (er L H)) ∧ Below w.heap.size w w'
set_option maxHeartbeats 1000000 in
theorem implFill_room (p : Int) (ao : Option Addr) (n cap : Nat) (F T G : Nat → Int) (po : Option Addr) (m pcap : Nat) (P : Nat → Int) (hn : n ≤ 1048576) (hm : m ≤ 1048576) (w : World) (hr : Row w ao n F T G) (hq : IRow w po m P) :
    Calls Try.prog 56 #[.agg #[.int .i64 p, .slice ao n cap], .slice po m pcap] w fun e w' => ERoom w w' e (lenF p n F T G m P) (Lf (lstF p n F T P)) (Hf (lstF p n F T P)) := by
  rcases Bool.eq_false_or_eq_true (ordB p n F T G m P) with h | h
  rotate_left
  · have hL : lenF p n F T G m P = 0 := by simp [lenF, h]
    rw [hL]
    have hA0 : Below w.heap.size w (((w.alloc (.cells #[.int .i64 p, .slice ao n cap] 45)).alloc (.cells #[] 64)).alloc (.cells #[.slice (some ⟨w.heap.size + 1, 0, none⟩) 0 0] 26)) := (((Below.refl _ _).alloc (Nat.le_refl _) _).alloc (by simp) _).alloc (by simp; omega) _
    go_enter Try.func56, Try.ntmps56
    go_wp2_with (go_at_call 63; refine (implOrderOk_any p ao n cap F T G po m pcap P hn hm _ (hr.below hA0 (Nat.le_refl _)) (hq.below hA0 (Nat.le_refl _))).mono ?_; rintro e w1 ⟨rfl, hb1⟩; have hbx := keep_cell hb1 (Nat.le_refl _) (b := w.heap.size + 1 + 1) (o := 0) (by simp [go_sem]; rfl))
    go_ret
    exact ⟨_, _, rfl, Nat.le_refl _, fun h => by omega, below_next hA0 (Nat.le_refl _) hb1⟩
  obtain ⟨hmp, hg, ⟨hm1, hm2⟩, he⟩ := ordB_parts h
  subst hmp
  have hL : lenF m n F T G m P = (allS (nbA F T n) P m m).length := by simp [lenF, h, lstF]
  have hS : lstF m n F T P = allS (nbA F T n) P m m := by simp [lstF]
  rw [hL, hS]
  obtain ⟨_, hn1, hF, hT, hFT⟩ := ok_arcs hg
  refine (implFill_walk m ao n cap F T G po pcap P hm1 hm2 hn1 hF hT hFT h w hr hq).mono ?_
  rintro e w' ⟨g, c, rfl, hc, hg2, hE, hb⟩
  exact ⟨_, _, rfl, hc, fun _ => ⟨g, rfl, hg2, hE⟩, hb⟩

theorem implFill_any (p : Int) (ao : Option Addr) (n cap : Nat) (F T G : Nat → Int) (po : Option Addr) (m pcap : Nat) (P : Nat → Int) (hn : n ≤ 1048576) (hm : m ≤ 1048576) (w : World) (hr : Row w ao n F T G) (hq : IRow w po m P) :
    Calls Try.prog 56 #[.agg #[.int .i64 p, .slice ao n cap], .slice po m pcap] w fun e w' => EAns w w' e (lenF p n F T G m P) (Lf (lstF p n F T P)) (Hf (lstF p n F T P)) :=
  (implFill_room p ao n cap F T G po m pcap P hn hm w hr hq).mono fun _ _ ⟨a, c, h1, _, h2, h3⟩ => ⟨a, c, h1, h2, h3⟩

end Go.Proofs.Ytganjllofgggjag

/-
  An order has each place once, and ranks are the other way round: the plain part.
-/
set_option linter.unusedVariables false
set_option linter.unusedSimpArgs false
namespace Go.Proofs.Ytganjllofgggjag

theorem sn_congr {P P' : Nat → Int} : ∀ k, (∀ j, j < k → P j = P' j) → ∀ q, sn P k q = sn P' k q
  | 0, _, q => rfl
  | k + 1, h, q => by rw [sn_succ, sn_succ, h k (by omega), sn_congr k (fun j hj => h j (by omega)) q]
theorem eachB_congr {m : Nat} {P P' : Nat → Int} : ∀ k, (∀ j, j < k → P j = P' j) → eachB m P k = eachB m P' k
  | 0, _ => rfl
  | k + 1, h => by
    unfold eachB
    rw [eachB_congr k (fun j hj => h j (by omega)), h k (by omega), sn_congr k (fun j hj => h j (by omega))]
theorem run3_each {p : Nat} {B : Nat → Nat → Bool} (hB : Fair B) : ∀ k, k ≤ p → eachB p (run3 p B k).2.2 k = true ∧ ∀ q, sn (run3 p B k).2.2 k q = (run3 p B k).2.1 q
  | 0, _ => ⟨rfl, fun q => rfl⟩
  | k + 1, hk => by
    obtain ⟨h1, h2⟩ := run3_each (p := p) hB k (Nat.le_of_succ_le hk)
    have hp := pick_some (p := p) (run3_fair (p := p) hB k) p (Nat.le_refl _) ((run3_gone (p := p) hB k (Nat.le_of_succ_le hk)).2 (by omega))
    have e3 : (run3 p B (k + 1)).2.2 = fun j => if j = k then ((pick p (run3 p B k).1 (run3 p B k).2.1 p).1 : Int) else (run3 p B k).2.2 j := rfl
    have e2 : (run3 p B (k + 1)).2.1 = goneU (run3 p B k).2.1 (pick p (run3 p B k).1 (run3 p B k).2.1 p).1 := rfl
    generalize (pick p (run3 p B k).1 (run3 p B k).2.1 p).1 = a at hp e3 e2
    have hat : (run3 p B (k + 1)).2.2 k = (a : Int) := by rw [e3]; simp
    have hold : ∀ j, j < k → (run3 p B (k + 1)).2.2 j = (run3 p B k).2.2 j := fun j hj => by rw [e3]; simp only []; rw [if_neg (by omega)]
    have hi : inB ((run3 p B (k + 1)).2.2 k) 0 ((p : Int) - 1) = true := by rw [hat]; simp [inB]; omega
    have hsn : ∀ q, sn (run3 p B (k + 1)).2.2 k q = (run3 p B k).2.1 q := fun q => by rw [sn_congr k hold q, h2]
    refine ⟨?_, fun q => ?_⟩
    · rw [eachB_at (by rw [eachB_congr k hold]; exact h1) hat hi, hsn, hp.2.1]; rfl
    · rw [sn_at hat q, hsn, e2]; rfl
theorem each_of_inj {m n : Nat} {P : Nat → Int} (h1 : ∀ k, k < n → 0 ≤ P k ∧ P k < (m : Int)) (h2 : ∀ i j, i < n → j < n → P i = P j → i = j) : ∀ k, k ≤ n → eachB m P k = true
  | 0, _ => rfl
  | k + 1, hk => by
    have := h1 k (by omega)
    have hi : inB (P k) 0 ((m : Int) - 1) = true := by simp [inB]; omega
    have hs : sn P k (P k).toNat = false := by
      cases hs : sn P k (P k).toNat
      · rfl
      · obtain ⟨j, hj, e⟩ := (sn_mem k _).1 hs
        have := h2 j k (by omega) (by omega) (by omega)
        omega
    show (eachB m P k && (inB (P k) 0 ((m : Int) - 1) && !sn P k (P k).toNat)) = true
    rw [each_of_inj h1 h2 k (by omega), hi, hs]; rfl
/-- Ranks of an order are an order, and their ranks are it. -/
theorem ranks_back {n : Nat} {P : Nat → Int} (h : eachB n P n = true) : eachB n (rk P (-1) n) n = true ∧ ∀ j, j < n → rk (rk P (-1) n) (-1) n j = P j := by
  have h1 : ∀ k, k < n → 0 ≤ rk P (-1) n k ∧ rk P (-1) n k < (n : Int) := fun k hk => by
    obtain ⟨q, q1, _, q3⟩ := rk_of h (-1) hk
    omega
  have h2 : ∀ i j, i < n → j < n → rk P (-1) n i = rk P (-1) n j → i = j := fun i j hi hj e => rk_inj h hi hj e
  have he := each_of_inj h1 h2 n (Nat.le_refl _)
  refine ⟨he, fun j hj => ?_⟩
  have hP := (each_in n h j hj).1
  have := rk_is (-1) n he (P j).toNat (by omega)
  rw [rk_is (-1) n h j hj] at this
  rw [Int.toNat_natCast] at this
  omega
theorem order_each {p : Nat} {n : Nat} {F T G : Nat → Int} (h : graphB (p : Int) n F T G = true) : eachB p (listO (p : Int) n F T) p = true := by
  obtain ⟨_, _, hF, hT, hFT⟩ := ok_arcs h
  have hfair : Fair (nbA F T n) := fair_nbA n (fun k hk => by have := hF k hk; have := hT k hk; have := hFT k hk; omega)
  have := (run3_each (p := p) hfair p (Nat.le_refl _)).1
  simpa [listO] using this

end Go.Proofs.Ytganjllofgggjag

/-
  Two boxes of two cells: an argument's and the result's, in a later world.
-/
set_option linter.unusedVariables false
set_option linter.unusedSimpArgs false
namespace Go.Proofs.Ytganjllofgggjag
open Go.RowKit Go.Maps
attribute [local go_sem ↓] Go.wp_at_zero Go.wp_at_succ

/-- The boxes of an argument and of a result, each of two cells, in a later world. -/
theorem box22 {w W : World} {a0 a1 c0 c1 : Value} {s t : TypeId} (h : Below (w.heap.size + 2) ((w.alloc (.cells #[a0, a1] s)).alloc (.cells #[c0, c1] t)) W) :
    (W.cell? ⟨w.heap.size, 0, none⟩ = some a0 ∧ W.cell? ⟨w.heap.size, 1, none⟩ = some a1) ∧ (W.cell? ⟨w.heap.size + 1, 0, none⟩ = some c0 ∧ W.cell? ⟨w.heap.size + 1, 1, none⟩ = some c1) ∧ (W.frozen? ⟨w.heap.size + 1, 0, none⟩ = false ∧ W.frozen? ⟨w.heap.size + 1, 1, none⟩ = false) ∧ w.heap.size + 2 ≤ W.heap.size := by
  refine ⟨⟨by rw [h.cell (by simp)]; simp [go_sem], by rw [h.cell (by simp)]; simp [go_sem]⟩, ⟨by rw [h.cell (by simp)]; simp [go_sem], by rw [h.cell (by simp)]; simp [go_sem]⟩, ⟨by rw [h.frozen (by simp)]; simp [go_sem], by rw [h.frozen (by simp)]; simp [go_sem]⟩, by have := h.size; simp at this; omega⟩
theorem unbox2 {w w' : World} {o1 o2 : Obj} {B : Nat} (h : Below B ((w.alloc o1).alloc o2) w') (hB : w.heap.size ≤ B) : Below w.heap.size w w' :=
  (((Below.refl _ _).alloc (Nat.le_refl _) _).alloc (by simp) _).trans (h.mono hB)

/-- What is written into the result's box turns nothing else. -/
theorem ret_block {W : World} {s b : Nat} (a c : Value) (hne : b ≠ s) : ((W.setCell ⟨s, 0, none⟩ a).setCell ⟨s, 1, none⟩ c).heap[b]? = W.heap[b]? :=
  (Below.heap_setCell _ _ _ _ (fun e => hne e)).trans (Below.heap_setCell _ _ _ _ (fun e => hne e))
theorem ret_below {B : Nat} {w W : World} {s : Nat} (h : Below B w W) (hB : B ≤ s) (a c : Value) : Below B w ((W.setCell ⟨s, 0, none⟩ a).setCell ⟨s, 1, none⟩ c) := (h.setCell hB a).setCell hB c

end Go.Proofs.Ytganjllofgggjag

/-
  NewHier, the document's and the program's: an order, and the fill by it, in new memory.
-/
set_option linter.unusedVariables false
set_option linter.unusedSimpArgs false
namespace Go.Proofs.Ytganjllofgggjag
open Go.RowKit
attribute [local go_sem ↓] Go.wp_at_zero Go.wp_at_succ

/-- An answered hierarchy, of the call's own. -/
def HAns (w w' : World) (e : Ending) (m : Nat) (D : Nat → Int) (k : Nat) (L H : Nat → Int) : Prop := ∃ ao cap eo ecap, e = .returned (.agg #[.slice ao m cap, .slice eo k ecap]) ∧ (0 < m → ∃ g, ao = some ⟨g, 0, none⟩ ∧ w.heap.size ≤ g ∧ IHas w' g m D) ∧ (0 < k → ∃ g, eo = some ⟨g, 0, none⟩ ∧ w.heap.size ≤ g ∧ EHas w' g k (er L H)) ∧ w.heap.size + 2 ≤ w'.heap.size ∧ Below w.heap.size w w'

theorem order_ok {p : Int} {n : Nat} {F T G : Nat → Int} (h : graphB p n F T G = true) : ordB p n F T G (lenO p n F T G) (listO p n F T) = true := by
  have hpp : 1 ≤ p ∧ p ≤ 24 := by simpa [inB] using graphB_p h
  obtain ⟨pn, rfl⟩ : ∃ pn : Nat, p = (pn : Int) := ⟨p.toNat, by omega⟩
  have hL : lenO pn n F T G = pn := by simp [lenO, h]
  rw [hL]
  simp [ordB, okR, h, order_each h]
  omega

set_option maxHeartbeats 1000000 in
theorem implNewHier_any (p : Int) (ao : Option Addr) (n cap : Nat) (F T G : Nat → Int) (hn : n ≤ 1048576) (w : World) (hr : Row w ao n F T G) :
    Calls Try.prog 25 #[.agg #[.int .i64 p, .slice ao n cap]] w fun e w' => HAns w w' e (lenO p n F T G) (listO p n F T) (lenF p n F T G (lenO p n F T G) (listO p n F T)) (Lf (lstF p n F T (listO p n F T))) (Hf (lstF p n F T (listO p n F T))) := by
  rcases Bool.eq_false_or_eq_true (graphB p n F T G) with h | h
  rotate_left
  · have h1 : lenO p n F T G = 0 := by simp [lenO, h]
    have h2 : lenF p n F T G (lenO p n F T G) (listO p n F T) = 0 := by simp [lenF, ordB, h]
    rw [h2, h1]
    go_enter Try.func25, Try.ntmps25
    go_wp2_with (go_at_call 54; refine (implGraphOk_any p ao n cap F T G hn _ ((hr.alloc _).alloc _)).mono ?_; rintro e w1 ⟨rfl, hb1⟩; obtain ⟨⟨q0, q1⟩, ⟨q2, q3⟩, ⟨q4, q5⟩, q6⟩ := box22 (hb1.mono (by simp)))
    exact bodyPost_ret (v := .agg #[.slice none 0 0, .slice none 0 0]) (by simp [results, Try.results25, go_sem, q2, q3, q4, q5]) rfl ⟨_, _, _, _, rfl, fun h => by omega, fun h => by omega, by simp [World.setCell]; omega, ret_below (unbox2 hb1 (by simp; omega)) (by simp) _ _⟩
  have hm := lenO_le p n F T G
  have hA := fun ao' cap' W hr' => implOrder_any p ao' n cap' F T G hn W hr'
  have hB := fun ao' cap' po' pcap' W hr' hp' => implFill_any p ao' n cap' F T G po' (lenO p n F T G) pcap' (listO p n F T) hn (by omega) W hr' hp'
  generalize lenF p n F T G (lenO p n F T G) (listO p n F T) = k at hB ⊢
  generalize Lf (lstF p n F T (listO p n F T)) = L at hB ⊢
  generalize Hf (lstF p n F T (listO p n F T)) = H at hB ⊢
  generalize lenO p n F T G = m at hA hB hm ⊢
  generalize listO p n F T = D at hA hB ⊢
  have HO : Hid (∀ ao' cap' W, Row W ao' n F T G → Calls Try.prog 55 #[.agg #[.int .i64 p, .slice ao' n cap']] W fun e w' => Ans W w' e m D) := hA
  have HF : Hid (∀ ao' cap' po' pcap' W, Row W ao' n F T G → IRow W po' m D → Calls Try.prog 56 #[.agg #[.int .i64 p, .slice ao' n cap'], .slice po' m pcap'] W fun e w' => EAns W w' e k L H) := hB
  clear hA hB
  go_enter Try.func25, Try.ntmps25
  go_wp2_with fail
  refine (implGraphOk_any p ao n cap F T G hn _ ((hr.alloc _).alloc _)).mono ?_
  rw [h]
  rintro e w1 ⟨rfl, hb1⟩
  have hA1 := hb1.mono (B' := w.heap.size + 2) (by simp)
  obtain ⟨⟨q0, q1⟩, ⟨q2, q3⟩, ⟨q4, q5⟩, q6⟩ := box22 hA1
  clear hb1
  go_wp2_with fail
  refine (HO.out _ _ _ (((hr.alloc _).alloc _).below hA1 (by simp))).mono ?_
  rintro e w2 ⟨aoD, capD, rfl, hD, hb2⟩
  have hA2 := below_next hA1 (by simp) hb2
  clear q0 q1 q2 q3 q4 q5 q6
  obtain ⟨⟨q0, q1⟩, ⟨q2, q3⟩, ⟨q4, q5⟩, q6⟩ := box22 hA2
  have hrD : IRow w2 aoD m D := fun j hj => by
    obtain ⟨g, e, _, hI⟩ := hD (by omega)
    subst e
    exact hI.row j hj
  go_wp2_with fail
  refine (HF.out _ _ _ _ _ (((hr.alloc _).alloc _).below hA2 (by simp)) hrD).mono ?_
  rintro e w3 ⟨aoE, capE, rfl, hE, hb3⟩
  have hA3 := below_next hA2 (by simp) hb3
  clear q0 q1 q2 q3 q4 q5 q6
  have s1 := hA1.size
  have s2 := hA2.size
  simp only [World.size_alloc] at s1 s2
  obtain ⟨⟨q0, q1⟩, ⟨q2, q3⟩, ⟨q4, q5⟩, q6⟩ := box22 hA3
  go_wp2
  refine bodyPost_ret (v := .agg #[.slice aoD m capD, .slice aoE k capE]) (by simp [results, Try.results25, go_sem, q2, q3, q4, q5]) rfl ⟨_, _, _, _, rfl, fun h => ?_, fun h => ?_, by simp [World.setCell]; omega, ret_below (unbox2 hA3 (by simp)) (by simp) _ _⟩
  · obtain ⟨g, e, hg, hI⟩ := hD h
    exact ⟨g, e, by omega, (hI.below hb3 hI.lt).of_block (ret_block _ _ (by omega))⟩
  · obtain ⟨g, e, hg, hI⟩ := hE h
    exact ⟨g, e, by omega, hI.of_block (ret_block _ _ (by omega))⟩

set_option maxHeartbeats 1000000 in
theorem specNewHier_any (p : Int) (ao : Option Addr) (n cap : Nat) (F T G : Nat → Int) (hn : n ≤ 1048576) (w : World) (hr : Row w ao n F T G) :
    Calls Try.prog 23 #[.agg #[.int .i64 p, .slice ao n cap]] w fun e w' => HAns w w' e (lenO p n F T G) (listO p n F T) (lenF p n F T G (lenO p n F T G) (listO p n F T)) (Lf (lstF p n F T (listO p n F T))) (Hf (lstF p n F T (listO p n F T))) := by
  rcases Bool.eq_false_or_eq_true (graphB p n F T G) with h | h
  rotate_left
  · have h1 : lenO p n F T G = 0 := by simp [lenO, h]
    have h2 : lenF p n F T G (lenO p n F T G) (listO p n F T) = 0 := by simp [lenF, ordB, h]
    rw [h2, h1]
    go_enter Try.func23, Try.ntmps23
    go_wp2_with (go_at_call 50; refine (specGraphOk_any p ao n cap F T G hn _ ((hr.alloc _).alloc _)).mono ?_; rintro e w1 ⟨rfl, hb1⟩; obtain ⟨⟨q0, q1⟩, ⟨q2, q3⟩, ⟨q4, q5⟩, q6⟩ := box22 (hb1.mono (by simp)))
    exact bodyPost_ret (v := .agg #[.slice none 0 0, .slice none 0 0]) (by simp [results, Try.results23, go_sem, q2, q3, q4, q5]) rfl ⟨_, _, _, _, rfl, fun h => by omega, fun h => by omega, by simp [World.setCell]; omega, ret_below (unbox2 hb1 (by simp; omega)) (by simp) _ _⟩
  have hpp : 1 ≤ p ∧ p ≤ 24 := by simpa [inB] using graphB_p h
  obtain ⟨pn, rfl⟩ : ∃ pn : Nat, p = (pn : Int) := ⟨p.toNat, by omega⟩
  have hL : lenO pn n F T G = pn := by simp [lenO, h]
  have hok := order_ok h
  rw [hL] at hok ⊢
  have hLF : lenF pn n F T G pn (listO pn n F T) = (allS (nbA F T n) (listO pn n F T) pn pn).length := by simp [lenF, hok, lstF]
  have hS : lstF pn n F T (listO pn n F T) = allS (nbA F T n) (listO pn n F T) pn pn := by simp [lstF]
  rw [hLF, hS]
  obtain ⟨⟨hp1, hp2⟩, hn1, hF, hT, hFT⟩ := ok_arcs h
  have he := order_each h
  have hA := fun ao' cap' W hr' => l3Order_any pn ao' n cap' F T G hp1 hp2 hn1 hF hT hFT W hr'
  have hB := fun ao' cap' po' pcap' W hr' hp' => l4Fill_any pn ao' n cap' F T G po' pcap' (listO pn n F T) hp1 hp2 hn1 hF hT hFT he W hr' hp'
  have hD : (run3 pn (nbA F T n) pn).2.2 = listO pn n F T := by simp [listO]
  rw [hD] at hA
  generalize allS (nbA F T n) (listO pn n F T) pn pn = l at hB ⊢
  generalize listO pn n F T = D at hA hB ⊢
  have HO : Hid (∀ ao' cap' W, Row W ao' n F T G → Calls Try.prog 51 #[.agg #[.int .i64 (pn : Int), .slice ao' n cap']] W fun e w' => ∃ g c, e = .returned (.slice (some ⟨g, 0, none⟩) pn c) ∧ W.heap.size ≤ g ∧ IHas w' g pn D ∧ Below W.heap.size W w' ∧ pn ≤ c) := hA
  have HF : Hid (∀ ao' cap' po' pcap' W, Row W ao' n F T G → IRow W po' pn D → Calls Try.prog 52 #[.agg #[.int .i64 (pn : Int), .slice ao' n cap'], .slice po' pn pcap'] W fun e w' => ∃ g c, e = .returned (.slice (some ⟨g, 0, none⟩) l.length c) ∧ W.heap.size ≤ g ∧ EOwn w' W.heap.size g c l ∧ Below W.heap.size W w') := hB
  clear hA hB hok hLF hS hF hT hFT he hD hL
  go_enter Try.func23, Try.ntmps23
  go_wp2_with fail
  refine (specGraphOk_any pn ao n cap F T G hn _ ((hr.alloc _).alloc _)).mono ?_
  rw [h]
  rintro e w1 ⟨rfl, hb1⟩
  have hA1 := hb1.mono (B' := w.heap.size + 2) (by simp)
  obtain ⟨⟨q0, q1⟩, ⟨q2, q3⟩, ⟨q4, q5⟩, q6⟩ := box22 hA1
  clear hb1
  go_wp2_with fail
  refine (HO.out _ _ _ (((hr.alloc _).alloc _).below hA1 (by simp))).mono ?_
  rintro e w2 ⟨gD, capD, rfl, hgD, hD, hb2, _⟩
  have hA2 := below_next hA1 (by simp) hb2
  clear q0 q1 q2 q3 q4 q5 q6
  obtain ⟨⟨q0, q1⟩, ⟨q2, q3⟩, ⟨q4, q5⟩, q6⟩ := box22 hA2
  go_wp2_with fail
  refine (HF.out _ _ _ _ _ (((hr.alloc _).alloc _).below hA2 (by simp)) hD.row).mono ?_
  rintro e w3 ⟨gE, capE, rfl, hgE, hE, hb3⟩
  have hA3 := below_next hA2 (by simp) hb3
  clear q0 q1 q2 q3 q4 q5 q6
  have s1 := hA1.size
  have s2 := hA2.size
  simp only [World.size_alloc] at s1 s2
  obtain ⟨⟨q0, q1⟩, ⟨q2, q3⟩, ⟨q4, q5⟩, q6⟩ := box22 hA3
  go_wp2
  refine bodyPost_ret (v := .agg #[.slice (some ⟨gD, 0, none⟩) pn capD, .slice (some ⟨gE, 0, none⟩) l.length capE]) (by simp [results, Try.results23, go_sem, q2, q3, q4, q5]) rfl ⟨_, _, _, _, rfl, fun _ => ⟨gD, rfl, by omega, (hD.below hb3 hD.lt).of_block (ret_block _ _ (by omega))⟩, fun _ => ⟨gE, rfl, by omega, hE.has.of_block (ret_block _ _ (by omega))⟩, by simp [World.setCell]; omega, ret_below (unbox2 hA3 (by simp)) (by simp) _ _⟩

end Go.Proofs.Ytganjllofgggjag

/-
  Which edges are as told: the document's and the program's look, each held against one plain function of the edges.
-/
set_option linter.unusedVariables false
set_option linter.unusedSimpArgs false
namespace Go.Proofs.Ytganjllofgggjag
open Go.RowKit
attribute [local go_sem ↓] Go.wp_at_zero Go.wp_at_succ

def edgeB (l h p : Int) : Bool := inB l 0 (p - 1) && inB h (l + 1) (p - 1)
def edB (p : Int) (L H : Nat → Int) : Nat → Bool
  | 0 => true
  | k + 1 => edB p L H k && (edgeB (L k) (H k) p && (k == 0 || upB (L (k - 1)) (H (k - 1)) (L k) (H k)))
def edgesB (p : Int) (n : Nat) (L H : Nat → Int) : Bool := inB p 1 24 && edB p L H n

theorem edB_no {p : Int} {L H : Nat → Int} {k : Nat} (h : edgeB (L k) (H k) p = false) : ∀ n, k < n → edB p L H n = false
  | 0, hk => by omega
  | n + 1, hk => by
    by_cases e : k = n
    · subst e; simp [edB, h]
    · simp [edB, edB_no h n (by omega)]
theorem edB_down {p : Int} {L H : Nat → Int} {k : Nat} (h0 : 0 < k) (h : upB (L (k - 1)) (H (k - 1)) (L k) (H k) = false) : ∀ n, k < n → edB p L H n = false
  | 0, hk => by omega
  | n + 1, hk => by
    by_cases e : k = n
    · subst e
      have : (k == 0) = false := by simp; omega
      simp [edB, h, this]
    · simp [edB, edB_down h0 h n (by omega)]
theorem edB_step {p : Int} {L H : Nat → Int} {k : Nat} (h : edB p L H k = true) (ha : edgeB (L k) (H k) p = true) (hu : k = 0 ∨ upB (L (k - 1)) (H (k - 1)) (L k) (H k) = true) : edB p L H (k + 1) = true := by
  rcases hu with hu | hu
  · subst hu; simp [edB, ha]
  · simp [edB, h, ha, hu]
theorem edB_at {p : Int} {L H : Nat → Int} : ∀ n, edB p L H n = true → ∀ k, k < n → edgeB (L k) (H k) p = true
  | 0, _, k, hk => by omega
  | n + 1, h, k, hk => by
    simp [edB] at h
    by_cases e : k = n
    · subst e; exact h.2.1
    · exact edB_at n h.1 k (by omega)
theorem edgeB_in {l h p : Int} (H : edgeB l h p = true) : 0 ≤ l ∧ l < h ∧ h < p := by
  simp [edgeB, inB] at H
  omega
theorem edgeB_false1 {l h p : Int} (H : inB l 0 (p - 1) = false) : edgeB l h p = false := by simp [edgeB, H]
theorem edgeB_false2 {l h p : Int} (H : inB h (l + 1) (p - 1) = false) : edgeB l h p = false := by simp [edgeB, H]
theorem edgeB_true {l h p : Int} (h1 : inB l 0 (p - 1) = true) (h2 : inB h (l + 1) (p - 1) = true) : edgeB l h p = true := by simp [edgeB, h1, h2]
theorem inB_in {x lo hi : Int} (h : inB x lo hi = true) : lo ≤ x ∧ x ≤ hi := by simpa [inB] using h

set_option maxHeartbeats 800000 in
theorem edgeOk_any (l h p : Int) (w : World) :
    Calls Try.prog 69 #[.agg #[.int .i64 l, .int .i64 h], .int .i64 p] w fun e w' => e = .returned (.bool (edgeB l h p)) ∧ Below w.heap.size w w' := by
  have e : edgeB l h p = (decide (0 ≤ l) && (decide (l < h) && decide (h < p))) := by
    unfold edgeB inB
    rw [Bool.eq_iff_iff]
    simp
    omega
  rw [e]
  clear e
  by_cases h1 : 0 ≤ l
  · by_cases h2 : l < h
    · by_cases h3 : h < p <;>
      · go_enter Try.func69, Try.ntmps69
        go_wp2
        go_ret
        exact ⟨by simp [h1, h2, h3], (Below.refl _ _).alloc (Nat.le_refl _) _⟩
    · go_enter Try.func69, Try.ntmps69
      go_wp2
      go_ret
      exact ⟨by simp [h2]; omega, (Below.refl _ _).alloc (Nat.le_refl _) _⟩
  · go_enter Try.func69, Try.ntmps69
    go_wp2
    go_ret
    exact ⟨by simp [h1]; omega, (Below.refl _ _).alloc (Nat.le_refl _) _⟩

set_option maxHeartbeats 1600000 in
theorem l4Edges_any (p : Int) (ao : Option Addr) (n cap : Nat) (L H : Nat → Int) (hn : n ≤ 1048576) (w : World) (hr : ERow w ao n L H) :
    Calls Try.prog 40 #[.slice ao n cap, .int .i64 p] w fun e w' => e = .returned (.bool (edgesB p n L H)) ∧ Below w.heap.size w w' := by
  by_cases h1 : inB p 1 24 = true
  rotate_left
  · have h1 : inB p 1 24 = false := by simpa using h1
    go_enter Try.func40, Try.ntmps40
    go_wp2_with (go_at_call 47; refine (l1In_any _ _ _ _).mono ?_; rintro e w1 ⟨rfl, rfl⟩)
    go_ret
    exact ⟨by simp [edgesB, h1], Below.refl _ _⟩
  have hp : 1 ≤ p ∧ p ≤ 24 := by simpa [inB] using h1
  obtain ⟨hp1, hp2⟩ := hp
  go_enter Try.func40, Try.ntmps40
  go_wp2_with (go_at_call 47; refine (l1In_any _ _ _ _).mono ?_; rintro e w1 ⟨rfl, hq⟩; have hq' := hq.symm; subst hq'; clear hq)
  go_loopw [5] (fun i wr => ∃ k : Nat, k ≤ n ∧ i = .int .i64 k ∧ edB p L H k = true ∧ Below w.heap.size w wr) (fun i _ => n - (intOf i).toNat)
  case atStart => exact ⟨0, Nat.zero_le _, rfl, rfl, Below.refl _ _⟩
  case round =>
    obtain ⟨k, hk, rfl, hok, hbel⟩ := hrel
    have HOK : Hid (edB p L H k = true) := hok
    clear hok
    by_cases hlt : k < n
    rotate_left
    · have hkn : k = n := by omega
      subst hkn
      go_wp2
      go_ret
      exact ⟨ret_bool (by simp [edgesB, h1, HOK.out]), hbel⟩
    obtain ⟨b, o, hao, c0, c1⟩ := (hr.below hbel (Nat.le_refl _)) k hlt
    subst hao
    have hsz := hbel.size
    rcases Bool.eq_false_or_eq_true (inB (L k) 0 (p - 1)) with ha | ha
    rotate_left
    · go_wp2_with (go_at_call 47; refine (l1In_any _ _ _ _).mono ?_; rintro e w1 ⟨rfl, rfl⟩)
      go_ret
      exact ⟨ret_bool (by simp [edgesB, h1, edB_no (edgeB_false1 ha) n hlt]), hbel.alloc (by omega) _⟩
    have hl := inB_in ha
    rcases Bool.eq_false_or_eq_true (inB (H k) (L k + 1) (p - 1)) with hb | hb
    rotate_left
    · go_wp2_with (go_at_call 47; refine (l1In_any _ _ _ _).mono ?_; rintro e w1 ⟨rfl, rfl⟩)
      go_ret
      exact ⟨ret_bool (by simp [edgesB, h1, edB_no (edgeB_false2 hb) n hlt]), hbel.alloc (by omega) _⟩
    have HE : Hid (edgeB (L k) (H k) p = true) := edgeB_true ha hb
    by_cases h0 : 0 < k
    rotate_left
    · go_wp2_with (go_at_call 47; refine (l1In_any _ _ _ _).mono ?_; rintro e w1 ⟨rfl, rfl⟩)
      go_roundw
      case rel => exact ⟨k + 1, by omega, by go_num, edB_step HOK.out HE.out (Or.inl (by omega)), hbel.alloc (by omega) _⟩
      case measure => simp [intOf]; omega
    have hbw : b < wr.heap.size := lt_of_cell c0
    obtain ⟨b', o', hao', d0, d1⟩ := (hr.below hbel (Nat.le_refl _)) (k - 1) (by omega)
    simp only [Option.some.injEq, Addr.mk.injEq, and_true] at hao'
    obtain ⟨rfl, rfl⟩ := hao'
    rcases Int.lt_trichotomy (L (k - 1)) (L k) with hF | hF | hF
    · go_wp2_with (go_at_call 47; refine (l1In_any _ _ _ _).mono ?_; rintro e w1 ⟨rfl, rfl⟩)
      go_roundw
      case rel => exact ⟨k + 1, by omega, by go_num, edB_step HOK.out HE.out (Or.inr (upB_yes1 hF)), (hbel.alloc (by omega) _).alloc (by simp; omega) _⟩
      case measure => simp [intOf]; omega
    · have hF1 : L (k - 1) ≤ L k := by omega
      have hF2 : L k ≤ L (k - 1) := by omega
      clear hF
      by_cases hT : H k ≤ H (k - 1)
      · go_wp2_with (go_at_call 47; refine (l1In_any _ _ _ _).mono ?_; rintro e w1 ⟨rfl, rfl⟩)
        go_ret
        exact ⟨ret_bool (by simp [edgesB, h1, edB_down h0 (upB_no2 hF1 hF2 hT) n hlt]), (hbel.alloc (by omega) _).alloc (by simp; omega) _⟩
      · go_wp2_with (go_at_call 47; refine (l1In_any _ _ _ _).mono ?_; rintro e w1 ⟨rfl, rfl⟩)
        go_roundw
        case rel => exact ⟨k + 1, by omega, by go_num, edB_step HOK.out HE.out (Or.inr (upB_yes2 hF1 hF2 (by omega))), (hbel.alloc (by omega) _).alloc (by simp; omega) _⟩
        case measure => simp [intOf]; omega
    · go_wp2_with (go_at_call 47; refine (l1In_any _ _ _ _).mono ?_; rintro e w1 ⟨rfl, rfl⟩)
      go_ret
      exact ⟨ret_bool (by simp [edgesB, h1, edB_down h0 (upB_no1 hF) n hlt]), (hbel.alloc (by omega) _).alloc (by simp; omega) _⟩

end Go.Proofs.Ytganjllofgggjag

/-
  The program's look whether edges are as told answers 'edgesB', for every list of at most 2^20 edges.
-/
set_option linter.unusedVariables false
set_option linter.unusedSimpArgs false
namespace Go.Proofs.Ytganjllofgggjag
open Go.RowKit
attribute [local go_sem ↓] Go.wp_at_zero Go.wp_at_succ

set_option maxHeartbeats 1600000 in
theorem edgesOk_any (p : Int) (ao : Option Addr) (n cap : Nat) (L H : Nat → Int) (hn : n ≤ 1048576) (w : World) (hr : ERow w ao n L H) :
    Calls Try.prog 43 #[.slice ao n cap, .int .i64 p] w fun e w' => e = .returned (.bool (edgesB p n L H)) ∧ Below w.heap.size w w' := by
  by_cases h1 : p < 1
  · have h' : inB p 1 24 = false := by simp [inB]; omega
    go_enter Try.func43, Try.ntmps43
    go_wp2
    go_ret
    exact ⟨ret_bool (by simp [edgesB, h']), Below.refl _ _⟩
  by_cases h2 : 24 < p
  · have h' : inB p 1 24 = false := by simp [inB]; omega
    go_enter Try.func43, Try.ntmps43
    go_wp2
    go_ret
    exact ⟨ret_bool (by simp [edgesB, h']), Below.refl _ _⟩
  have hin : Hid (inB p 1 24 = true) := by show inB p 1 24 = true; simp [inB]; omega
  go_enter Try.func43, Try.ntmps43
  go_wp2
  go_loopw [15] (fun i wr => ∃ k : Nat, k ≤ n ∧ i = .int .i64 k ∧ edB p L H k = true ∧ Below w.heap.size w wr) (fun i _ => n - (intOf i).toNat)
  case atStart => exact ⟨0, Nat.zero_le _, rfl, rfl, Below.refl _ _⟩
  case round =>
    obtain ⟨k, hk, rfl, hok, hbel⟩ := hrel
    have HOK : Hid (edB p L H k = true) := hok
    clear hok
    by_cases hlt : k < n
    rotate_left
    · have hkn : k = n := by omega
      subst hkn
      go_wp2
      go_ret
      exact ⟨ret_bool (by simp [edgesB, hin.out, HOK.out]), hbel⟩
    obtain ⟨b, o, hao, c0, c1⟩ := (hr.below hbel (Nat.le_refl _)) k hlt
    subst hao
    have hsz := hbel.size
    rcases Bool.eq_false_or_eq_true (edgeB (L k) (H k) p) with ha | ha
    rotate_left
    · go_wp2_with (go_at_call 69; refine (edgeOk_any _ _ _ _).mono ?_; rintro e w1 ⟨rfl, hb1⟩)
      go_ret
      exact ⟨ret_bool (by simp [edgesB, edB_no ha n hlt]), below_next (hbel.alloc (by omega) _) (Nat.le_refl _) hb1⟩
    by_cases h0 : 0 < k
    rotate_left
    · have hd : decide (0 < (k : Int)) = false := by simp; omega
      go_wp2_with (go_at_call 69; refine (edgeOk_any _ _ _ _).mono ?_; rintro e w1 ⟨rfl, hb1⟩)
      have hA := below_next (hbel.alloc (by omega) _) (Nat.le_refl _) hb1
      go_quiet (fail)
      go_wp2
      go_roundw
      case rel => exact ⟨k + 1, by omega, by go_num, edB_step HOK.out ha (Or.inl (by omega)), below_drewN hA _⟩
      case measure => simp [intOf]; omega
    have hbw : b < wr.heap.size := lt_of_cell c0
    obtain ⟨b', o', hao', d0, d1⟩ := (hr.below hbel (Nat.le_refl _)) (k - 1) (by omega)
    simp only [Option.some.injEq, Addr.mk.injEq, and_true] at hao'
    obtain ⟨rfl, rfl⟩ := hao'
    have hk1 : (0 : Int) ≤ (k : Int) - 1 := by omega
    have hk2 : (k : Int) - 1 < (n : Int) := by omega
    have hk3 : IntKind.i64.wrap ((k : Int) - 1) = (k : Int) - 1 := by rw [IntKind.wrap_i64]; omega
    have hk4 : ((k : Int) - 1).toNat = k - 1 := by omega
    have hk5 : (1 : Int) ≤ (k : Int) := by omega
    have hk6 : (k : Int) ≤ (n : Int) := by omega
    have hk7 : 1 ≤ k := by omega
    have hcu := cmpE_up (L (k - 1)) (H (k - 1)) (L k) (H k)
    rcases Bool.eq_false_or_eq_true (upB (L (k - 1)) (H (k - 1)) (L k) (H k)) with hu | hu
    · have hge : ¬ 0 ≤ cmpE (L (k - 1)) (H (k - 1)) (L k) (H k) := by have := hcu.2 hu; omega
      clear hcu
      go_wp2_with (go_at_call 69; refine (edgeOk_any _ _ _ _).mono ?_; rintro e w1 ⟨rfl, hb1⟩)
      have hbw1 := unbox hb1 (by simp)
      have hA := (hbel.alloc (by omega) _).trans (hb1.mono (by simp; omega))
      have s1 := keep_cell hbw1 (Nat.le_refl _) d0
      have s2 := keep_cell hbw1 (Nat.le_refl _) d1
      have s4 := keep_cell hb1 (Nat.le_refl _) (b := wr.heap.size) (o := 0) (by simp [go_sem]; rfl)
      have s5 := keep_cell hb1 (Nat.le_refl _) (b := wr.heap.size) (o := 1) (by simp [go_sem]; rfl)
      go_region_held3 (fun w' => w'.cell? ⟨b, o + (k - 1) * 2, none⟩ = some (.int .i64 (L (k - 1))) ∧ w'.cell? ⟨b, o + (k - 1) * 2 + 1, none⟩ = some (.int .i64 (H (k - 1))) ∧ w'.cell? ⟨wr.heap.size, 0, none⟩ = some (.int .i64 (L k)) ∧ w'.cell? ⟨wr.heap.size, 1, none⟩ = some (.int .i64 (H k)))
        (first | (go_split_ands; refine ⟨?_, ?_, ?_, ?_⟩ <;> exact keep_cell hb2 (Nat.le_refl _) (by assumption)) | go_keep)
        (first | (go_at_call 70; refine (compareEdges_any _ _ _ _ _).mono ?_; rintro e w2 ⟨rfl, hb2⟩; (first | have hA := below_next hA (by simp) hb2 | have hA := below_next hA.drew (by simp) hb2)))
      go_wp2
      go_roundw
      case rel => exact ⟨k + 1, by omega, by go_num, edB_step HOK.out ha (Or.inr hu), hA⟩
      case measure => simp [intOf]; omega
    · have hge : 0 ≤ cmpE (L (k - 1)) (H (k - 1)) (L k) (H k) := by
        by_cases h : cmpE (L (k - 1)) (H (k - 1)) (L k) (H k) < 0
        · rw [hcu.1 h] at hu; cases hu
        · omega
      clear hcu
      go_wp2_with (go_at_call 69; refine (edgeOk_any _ _ _ _).mono ?_; rintro e w1 ⟨rfl, hb1⟩)
      have hbw1 := unbox hb1 (by simp)
      have hA := (hbel.alloc (by omega) _).trans (hb1.mono (by simp; omega))
      have s1 := keep_cell hbw1 (Nat.le_refl _) d0
      have s2 := keep_cell hbw1 (Nat.le_refl _) d1
      have s4 := keep_cell hb1 (Nat.le_refl _) (b := wr.heap.size) (o := 0) (by simp [go_sem]; rfl)
      have s5 := keep_cell hb1 (Nat.le_refl _) (b := wr.heap.size) (o := 1) (by simp [go_sem]; rfl)
      go_region_held3 (fun w' => w'.cell? ⟨b, o + (k - 1) * 2, none⟩ = some (.int .i64 (L (k - 1))) ∧ w'.cell? ⟨b, o + (k - 1) * 2 + 1, none⟩ = some (.int .i64 (H (k - 1))) ∧ w'.cell? ⟨wr.heap.size, 0, none⟩ = some (.int .i64 (L k)) ∧ w'.cell? ⟨wr.heap.size, 1, none⟩ = some (.int .i64 (H k)))
        (first | (go_split_ands; refine ⟨?_, ?_, ?_, ?_⟩ <;> exact keep_cell hb2 (Nat.le_refl _) (by assumption)) | go_keep)
        (first | (go_at_call 70; refine (compareEdges_any _ _ _ _ _).mono ?_; rintro e w2 ⟨rfl, hb2⟩; (first | have hA := below_next hA (by simp) hb2 | have hA := below_next hA.drew (by simp) hb2)))
      go_wp2
      go_ret
      exact ⟨ret_bool (by simp [edgesB, edB_down h0 hu n hlt]), hA⟩

end Go.Proofs.Ytganjllofgggjag

/-
  Chordal: what it asks.
-/
set_option linter.unusedVariables false
set_option linter.unusedSimpArgs false
namespace Go.Proofs.Ytganjllofgggjag
open Go.RowKit
attribute [local go_sem ↓] Go.wp_at_zero Go.wp_at_succ

/-- The edge is there. -/
def Hs (n : Nat) (L H : Nat → Int) (a b : Int) : Prop := ∃ i, i < n ∧ L i = a ∧ H i = b
/-- For each two edges of the first m with one Low, and those behind: the edge between their Highs is there. -/
def ChdTo (n : Nat) (L H : Nat → Int) (m : Nat) : Prop := ∀ i, i < m → ∀ k, i < k → k < n → (∀ j, i < j → j ≤ k → L j = L i) → Hs n L H (H i) (H k)
def Chd (p : Int) (n : Nat) (L H : Nat → Int) : Prop := edgesB p n L H = true ∧ ChdTo n L H n

end Go.Proofs.Ytganjllofgggjag

/-
  Chordal: the document's. For every list of at most 2^20 edges.
-/
set_option linter.unusedVariables false
set_option linter.unusedSimpArgs false
namespace Go.Proofs.Ytganjllofgggjag
open Go.RowKit
attribute [local go_sem ↓] Go.wp_at_zero Go.wp_at_succ

/-- One edge's turn: those up to k. -/
def ChdAt (n : Nat) (L H : Nat → Int) (i k : Nat) : Prop := (∀ j, i < j → j < k → L j = L i) ∧ ∀ j, i < j → j < k → Hs n L H (H i) (H j)
theorem ChdTo.next {n : Nat} {L H : Nat → Int} {i k : Nat} (h : ChdTo n L H i) (hk : ChdAt n L H i k) (he : k = n ∨ L k ≠ L i) (hik : i < k) : ChdTo n L H (i + 1) := fun x hx y h1 h2 h3 => by
  by_cases e : x = i
  · subst e
    by_cases hy : y < k
    · exact hk.2 y h1 hy
    · rcases he with he | he
      · omega
      · exact absurd (h3 k hik (by omega)) he
  · exact h x (by omega) y h1 h2 h3
theorem ChdAt.start (n : Nat) (L H : Nat → Int) (i : Nat) : ChdAt n L H i (i + 1) := ⟨fun j h1 h2 => by omega, fun j h1 h2 => by omega⟩
theorem ChdAt.next {n : Nat} {L H : Nat → Int} {i k : Nat} (h : ChdAt n L H i k) (e : L k = L i) (hs : Hs n L H (H i) (H k)) : ChdAt n L H i (k + 1) :=
  ⟨fun j h1 h2 => by
    by_cases x : j = k
    · subst x; exact e
    · exact h.1 j h1 (by omega),
   fun j h1 h2 => by
    by_cases x : j = k
    · subst x; exact hs
    · exact h.2 j h1 (by omega)⟩
theorem ChdAt.bad {n : Nat} {L H : Nat → Int} {i k : Nat} (h : ChdAt n L H i k) (e : L k = L i) (hik : i < k) (hk : k < n) (hs : ¬ Hs n L H (H i) (H k)) : ¬ ChdTo n L H n := fun hc =>
  hs (hc i (by omega) k hik hk (fun j h1 h2 => by
    by_cases x : j = k
    · subst x; exact e
    · exact h.1 j h1 (by omega)))
/-- What is answered: true just where the list is as told and chordal. -/
def BAns (e : Ending) (P : Prop) : Prop := ∃ v : Bool, e = .returned (.bool v) ∧ (v = true ↔ P)
theorem bans_no {P : Prop} (h : ¬ P) : BAns (.returned (.bool false)) P := ⟨false, rfl, by simp [h]⟩
theorem bans_yes {P : Prop} (h : P) : BAns (.returned (.bool true)) P := ⟨true, rfl, by simp [h]⟩
set_option maxHeartbeats 800000 in
theorem l4Find_any (ao : Option Addr) (n cap : Nat) (L H : Nat → Int) (a b : Int) (hn : n ≤ 1048576) (w : World) (hr : ERow w ao n L H) :
    Calls Try.prog 45 #[.slice ao n cap, .int .i64 a, .int .i64 b] w fun e w' => ∃ r : Int, e = .returned (.int .i64 r) ∧ (r < 0 ↔ ¬ Hs n L H a b) ∧ Below w.heap.size w w' := by
  go_enter Try.func45, Try.ntmps45
  go_wp2
  go_loopw [7] (fun i wr => ∃ k : Nat, k ≤ n ∧ i = .int .i64 k ∧ (∀ j, j < k → ¬ (L j = a ∧ H j = b)) ∧ Below w.heap.size w wr) (fun i _ => n - (intOf i).toNat)
  case atStart => exact ⟨0, Nat.zero_le _, rfl, fun j hj => by omega, Below.refl _ _⟩
  case round =>
    obtain ⟨k, hk, rfl, hno, hbel⟩ := hrel
    have HNO : Hid (∀ j, j < k → ¬ (L j = a ∧ H j = b)) := hno
    clear hno
    by_cases hlt : k < n
    rotate_left
    · have hkn : k = n := by omega
      subst hkn
      go_wp2
      go_ret
      exact ⟨_, rfl, ⟨fun _ ⟨i, h1, h2⟩ => HNO.out i h1 h2, fun _ => by omega⟩, hbel⟩
    obtain ⟨bb, o, hao, c0, c1⟩ := (hr.below hbel (Nat.le_refl _)) k hlt
    subst hao
    have hk1 : (0 : Int) ≤ (k : Int) := by omega
    have hk2 : (k : Int) < (n : Int) := by omega
    by_cases h1 : L k = a
    rotate_left
    · have hd : decide (L k = a) = false := by simpa using h1
      go_wp2
      go_roundw
      case rel => exact ⟨k + 1, by omega, by go_num, fun j hj => by
        by_cases e : j = k
        · subst e; exact fun h => h1 h.1
        · exact HNO.out j (by omega), hbel⟩
      case measure => simp [intOf]; omega
    by_cases h2 : H k = b
    · have hs : Hid (Hs n L H a b) := ⟨k, hlt, h1, h2⟩
      go_wp2
      go_ret
      exact ⟨_, rfl, ⟨fun h => by omega, fun h => absurd hs.out h⟩, hbel⟩
    · go_wp2
      go_roundw
      case rel => exact ⟨k + 1, by omega, by go_num, fun j hj => by
        by_cases e : j = k
        · subst e; exact fun h => h2 h.2
        · exact HNO.out j (by omega), hbel⟩
      case measure => simp [intOf]; omega
set_option maxHeartbeats 1600000 in
theorem specChordal_any (p : Int) (ao : Option Addr) (n cap : Nat) (L H : Nat → Int) (hn : n ≤ 1048576) (w : World) (hr : ERow w ao n L H) :
    Calls Try.prog 18 #[.slice ao n cap, .int .i64 p] w fun e w' => BAns e (Chd p n L H) ∧ Below w.heap.size w w' := by
  rcases Bool.eq_false_or_eq_true (edgesB p n L H) with h | h
  rotate_left
  · have HC : Hid (¬ Chd p n L H) := fun hc => by rw [hc.1] at h; cases h
    go_enter Try.func18, Try.ntmps18
    go_wp2_with (go_at_call 40; refine (l4Edges_any p ao n cap L H hn _ hr).mono ?_; rintro e w1 ⟨rfl, hb1⟩)
    go_ret
    exact ⟨bans_no HC.out, hb1⟩
  have HC : Hid (Chd p n L H ↔ ChdTo n L H n) := ⟨fun x => x.2, fun x => ⟨h, x⟩⟩
  go_enter Try.func18, Try.ntmps18
  go_wp2_with (go_at_call 40; refine (l4Edges_any p ao n cap L H hn _ hr).mono ?_; rintro e w1 ⟨rfl, hb1⟩)
  go_loopw [5] (fun x wr => ∃ i : Nat, i ≤ n ∧ x = .int .i64 i ∧ ChdTo n L H i ∧ Below w.heap.size w wr) (fun x _ => n - (intOf x).toNat)
  case atStart => exact ⟨0, Nat.zero_le _, rfl, fun i hi => by omega, hb1⟩
  case round =>
    clear hb1
    obtain ⟨i, hi, rfl, hto, hbel0⟩ := hrel
    have HTO : Hid (ChdTo n L H i) := hto
    clear hto
    by_cases hlt : i < n
    rotate_left
    · have hin : i = n := by omega
      subst hin
      go_wp2
      go_ret
      exact ⟨bans_yes (HC.out.2 HTO.out), hbel0⟩
    go_wp2
    go_loopw [6] (fun x wr => ∃ k : Nat, i < k ∧ k ≤ n ∧ x = .int .i64 k ∧ ChdAt n L H i k ∧ Below w.heap.size w wr) (fun x _ => n - (intOf x).toNat)
    case atStart => exact ⟨i + 1, by omega, by omega, by go_num, ChdAt.start n L H i, hbel0⟩
    case round =>
      clear hbel0
      obtain ⟨k, hik, hk, rfl, hat, hbel⟩ := hrel
      have HAT : Hid (ChdAt n L H i k) := hat
      clear hat
      by_cases hkn : k < n
      rotate_left
      · have e : k = n := by omega
        have HN : Hid (ChdTo n L H (i + 1)) := HTO.out.next HAT.out (Or.inl e) hik
        have hd : decide ((k : Int) < (n : Int)) = false := by simp; omega
        go_wp2
        go_quiet (fail)
        go_wp2
        go_roundw
        case rel => exact ⟨i + 1, by omega, by go_num, HN.out, below_drewN hbel _⟩
        case measure => simp [intOf]; omega
      obtain ⟨b, o, hao, c0, c1⟩ := (hr.below hbel (Nat.le_refl _)) i hlt
      obtain ⟨b', o', hao', d0, d1⟩ := (hr.below hbel (Nat.le_refl _)) k hkn
      rw [hao] at hao'
      simp only [Option.some.injEq, Addr.mk.injEq, and_true] at hao'
      obtain ⟨rfl, rfl⟩ := hao'
      have hR := hr.below hbel (Nat.le_refl _)
      subst hao
      have hd : decide ((k : Int) < (n : Int)) = true := by simp; omega
      have hk1 : (0 : Int) ≤ (k : Int) := by omega
      have hk2 : (k : Int) < (n : Int) := by omega
      have hi1 : (0 : Int) ≤ (i : Int) := by omega
      have hi2 : (i : Int) < (n : Int) := by omega
      by_cases hL : L k = L i
      rotate_left
      · have HN : Hid (ChdTo n L H (i + 1)) := HTO.out.next HAT.out (Or.inr hL) hik
        have hLd : decide (L k = L i) = false := by simpa using hL
        go_wp2
        go_quiet (fail)
        go_wp2
        go_roundw
        case rel => exact ⟨i + 1, by omega, by go_num, HN.out, below_drewN hbel _⟩
        case measure => simp [intOf]; omega
      have HL : Hid (L k = L i) := hL
      rw [hL] at d0
      clear hL
      go_wp2
      go_quiet (fail)
      have HB : Below w.heap.size w (wr.drewN nq).drew := (below_drewN hbel _).drew
      have HR : ERow (wr.drewN nq).drew (some ⟨b, o, none⟩) n L H := hR.below ((below_drewN (Below.refl wr.heap.size wr) nq).drew) (Nat.le_refl _)
      clear hR hbel
      go_wp2_with fail
      by_cases hs : Hs n L H (H i) (H k)
      · have HS : Hid (Hs n L H (H i) (H k)) := hs
        clear hs
        go_region_held3 (fun w' => w'.cell? ⟨b, o + i * 2 + 1, none⟩ = some (.int .i64 (H i)) ∧ w'.cell? ⟨b, o + k * 2 + 1, none⟩ = some (.int .i64 (H k)))
          (first | (go_split_ands; refine ⟨?_, ?_⟩ <;> exact keep_cell hb2 (Nat.le_refl _) (by assumption)) | go_keep)
          (first | (go_at_call 45; refine (l4Find_any _ n cap L H _ _ hn _ HR).mono ?_; rintro e w2 ⟨r, rfl, hrr, hb2⟩; have hrs := (show ¬ r < 0 from fun h => hrr.1 h HS.out)))
        have HB2 := below_next HB (Nat.le_refl _) hb2
        go_wp2
        go_roundw
        case rel => exact ⟨k + 1, by omega, by omega, by go_num, HAT.out.next HL.out HS.out, HB2⟩
        case measure => simp [intOf]; omega
      · have HS : Hid (¬ Hs n L H (H i) (H k)) := hs
        clear hs
        go_region_held3 (fun w' => w'.cell? ⟨b, o + i * 2 + 1, none⟩ = some (.int .i64 (H i)) ∧ w'.cell? ⟨b, o + k * 2 + 1, none⟩ = some (.int .i64 (H k)))
          (first | (go_split_ands; refine ⟨?_, ?_⟩ <;> exact keep_cell hb2 (Nat.le_refl _) (by assumption)) | go_keep)
          (first | (go_at_call 45; refine (l4Find_any _ n cap L H _ _ hn _ HR).mono ?_; rintro e w2 ⟨r, rfl, hrr, hb2⟩; have hrs := (show r < 0 from hrr.2 HS.out)))
        have HB2 := below_next HB (Nat.le_refl _) hb2
        go_wp2
        go_ret
        exact ⟨bans_no (fun hc => HAT.out.bad HL.out hik hkn HS.out (HC.out.1 hc)), HB2⟩

end Go.Proofs.Ytganjllofgggjag

/-
  slices.Equal over edges: true just where both are as long, and each edge is the same.
-/
set_option linter.unusedVariables false
set_option linter.unusedSimpArgs false
namespace Go.Proofs.Ytganjllofgggjag
open Go.RowKit
attribute [local go_sem ↓] Go.wp_at_zero Go.wp_at_succ

def SameE (n m : Nat) (L H L' H' : Nat → Int) : Prop := n = m ∧ ∀ i, i < n → L i = L' i ∧ H i = H' i
set_option maxHeartbeats 1000000 in
theorem equalE_any (ao ao' : Option Addr) (n m cap cap' : Nat) (L H L' H' : Nat → Int) (hn : n ≤ 1048576) (hm : m ≤ 1048576) (w : World) (hr : ERow w ao n L H) (hr' : ERow w ao' m L' H') :
    Calls Try.prog 64 #[.slice ao n cap, .slice ao' m cap'] w fun e w' => BAns e (SameE n m L H L' H') ∧ Below w.heap.size w w' := by
  by_cases hnm : n = m
  rotate_left
  · have HN : Hid (¬ SameE n m L H L' H') := fun h => hnm h.1
    have hnm' : ¬ (n : Int) = (m : Int) := by omega
    go_enter Try.func64, Try.ntmps64
    go_wp2
    go_ret
    exact ⟨bans_no HN.out, Below.refl _ _⟩
  subst hnm
  go_enter Try.func64, Try.ntmps64
  go_wp2
  go_loopw [13] (fun x wr => ∃ k : Nat, k ≤ n ∧ x = .int .i64 k ∧ (∀ i, i < k → L i = L' i ∧ H i = H' i) ∧ Below w.heap.size w wr) (fun x _ => n - (intOf x).toNat)
  case atStart => exact ⟨0, Nat.zero_le _, rfl, fun i hi => by omega, Below.refl _ _⟩
  case round =>
    obtain ⟨k, hk, rfl, hall, hbel⟩ := hrel
    have HA : Hid (∀ i, i < k → L i = L' i ∧ H i = H' i) := hall
    clear hall
    by_cases hlt : k < n
    rotate_left
    · have hkn : k = n := by omega
      subst hkn
      go_wp2
      go_ret
      exact ⟨bans_yes ⟨rfl, HA.out⟩, hbel⟩
    obtain ⟨b, o, hao, c0, c1⟩ := (hr.below hbel (Nat.le_refl _)) k hlt
    subst hao
    obtain ⟨b', o', hao', d0, d1⟩ := (hr'.below hbel (Nat.le_refl _)) k hlt
    subst hao'
    have hk1 : (0 : Int) ≤ (k : Int) := by omega
    have hk2 : (k : Int) < (n : Int) := by omega
    by_cases he : L k = L' k ∧ H k = H' k
    · have HE : Hid (L k = L' k ∧ H k = H' k) := he
      obtain ⟨e1, e2⟩ := he
      rw [← e1] at d0
      rw [← e2] at d1
      clear e1 e2
      go_wp2
      go_quiet (fail)
      go_wp2
      go_roundw
      case rel => exact ⟨k + 1, by omega, by go_num, fun i hi => by
        by_cases x : i = k
        · subst x; exact HE.out
        · exact HA.out i (by omega), below_drewN hbel _⟩
      case measure => simp [intOf]; omega
    · have HE : Hid (¬ SameE n n L H L' H') := fun h => he (h.2 k hlt)
      by_cases h1 : L k = L' k
      · have h2 : ¬ H k = H' k := fun h => he ⟨h1, h⟩
        rw [← h1] at d0
        clear h1 he
        go_wp2
        go_quiet (fail)
        go_wp2
        go_ret
        exact ⟨bans_no HE.out, below_drewN hbel _⟩
      · clear he
        go_wp2
        go_quiet (fail)
        go_wp2
        go_ret
        exact ⟨bans_no HE.out, below_drewN hbel _⟩

end Go.Proofs.Ytganjllofgggjag

/-
  A region that draws its order, taken by hand: an operation whose guard says no.
-/
set_option linter.unusedVariables false
set_option linter.unusedSimpArgs false
namespace Go.Proofs.Ytganjllofgggjag
open Go

section
variable {P : Program} {ops : Array Oper} {Q : Exit → Act → World → Prop} {md : Region.Mode} {S : World → Prop}
/-- An operation that is not wanted yields nothing, in whatever order. -/
theorem skipH (i : Nat) (d : Option Tmp) {oi : Oper} {fuel : Nat} {listed : Array Bool} {a : Act} {w : World} (hi : ops[i]? = some oi) (hd : oi.dst = d)
    (hs : Region.noSelect ops = true) (hf : Region.free md ops listed i = true) (hr : (Region.ready md ops listed).contains i = true)
    (hQ : ∀ c a w, Q (.panic c) (a.put oi.dst undef) w → Q (.panic c) a w) (hw : Region.wanted oi (yielded ops a.tmps) = false) (hS : S w)
    (h : wpAnyH P md ops Q S fuel (listed.setIfInBounds i true) (a.put d undef) w) : wpAnyH P md ops Q S (fuel + 1) listed a w :=
  wpAnyH_take hi hs hf hr hQ (.inr ⟨hw, rfl⟩) hS (by rw [hd]; exact h)
/-- The same of one that is alone ready. -/
theorem skip1H (i : Nat) (d : Option Tmp) {oi : Oper} {fuel : Nat} {listed : Array Bool} {a : Act} {w : World} (hi : ops[i]? = some oi) (hd : oi.dst = d) (hr : Region.ready md ops listed = [i])
    (hw : Region.wanted oi (yielded ops a.tmps) = false) (hS : S w)
    (h : wpAnyH P md ops Q S fuel (listed.setIfInBounds i true) (a.put d undef) w) : wpAnyH P md ops Q S (fuel + 1) listed a w :=
  wpAnyH_ready hr (by simp) (AllReadyH.cons hi (fun K hK => by rw [if_neg (by rw [hw]; simp)]; exact hK.out _ _ hS (fun _ => by rw [hd]; exact h)) AllReadyH.nil)
/-- One that yields in every world that keeps to S. -/
theorem takeH (i : Nat) (d : Option Tmp) (v : Value) {oi : Oper} {fuel : Nat} {listed : Array Bool} {a : Act} {w : World} (hi : ops[i]? = some oi) (hd : oi.dst = d)
    (hs : Region.noSelect ops = true) (hf : Region.free md ops listed i = true) (hr : (Region.ready md ops listed).contains i = true)
    (hQ : ∀ c a w, Q (.panic c) (a.put oi.dst v) w → Q (.panic c) a w) (hw : Region.wanted oi (yielded ops a.tmps) = true) (hS : S w) (hy : ∀ w, S w → (execOp a.eval oi).run P w = .ok (.value v) w)
    (h : wpAnyH P md ops Q S fuel (listed.setIfInBounds i true) (a.put d v) w) : wpAnyH P md ops Q S (fuel + 1) listed a w :=
  wpAnyH_take hi hs hf hr hQ (.inl ⟨hw, hy⟩) hS (by rw [hd]; exact h)
/-- An operation that is alone ready and wanted. -/
theorem step1H (i : Nat) (oi : Oper) {fuel : Nat} {listed : Array Bool} {a : Act} {w : World} (hi : ops[i]? = some oi) (hr : Region.ready md ops listed = [i])
    (hw : Region.wanted oi (yielded ops a.tmps) = true) (h : Oper.wp P oi a w (fun a' w' => S w' ∧ wpAnyH P md ops Q S fuel (listed.setIfInBounds i true) a' w') Q) : wpAnyH P md ops Q S (fuel + 1) listed a w :=
  wpAnyH_ready hr (by simp) (AllReadyH.cons hi (fun K hK => by rw [if_pos hw]; exact Oper.wp_mono (fun a' w' h' => hK.out _ _ h'.1 (fun _ => h'.2)) h) AllReadyH.nil)
end

end Go.Proofs.Ytganjllofgggjag
