/-
  The document's draw of edges: mostly a fill. What is drawn is told by existence alone.
-/
import Derived.Test.YtaddhiojahmbpabDrawOrd
import Derived.Test.YtaddhiojahmbpabFillSp
set_option linter.unusedVariables false
set_option linter.unusedSimpArgs false
namespace Go.Proofs.Ytaddhiojahmbpab
open Go.RowKit Go.Maps
attribute [local go_sem ↓] Go.wp_at_zero Go.wp_at_succ

theorem l1From8_any (base c : Nat) (ao : Option Addr) (n cap : Nat) (w : World) (hC : CurAt w base c ao n cap) :
    Calls Try.prog 28 #[.pointer (some ⟨c, 0, none⟩), .int .i64 (-1), .int .i64 8] w fun e w' => ∃ x : Int, e = .returned (.int .i64 x) ∧ CurAt w' base c ao n cap ∧ w.grownBy w' (some c) := by
  go_enter Try.func28, Try.ntmps28
  go_wp2_with (go_at_call 27; refine (l1Below_any base c ao n cap _ (by omega) (by omega) _ hC).mono ?_; rintro e w1 ⟨x, rfl, hx, hC1, hg1⟩)
  go_ret
  exact ⟨_, rfl, hC1, hg1⟩
theorem lit6 {W : World} {b : Nat} {a0 a1 a2 a3 a4 a5 : Int} {t : TypeId} (h : W.heap[b]? = some (.cells #[.int .i64 a0, .int .i64 a1, .int .i64 a2, .int .i64 a3, .int .i64 a4, .int .i64 a5] t (0, 0))) {y : Nat} (hy : y < 6) : ∃ v, W.cell? ⟨b, y, none⟩ = some (.int .i64 v) := by
  have : y = 0 ∨ y = 1 ∨ y = 2 ∨ y = 3 ∨ y = 4 ∨ y = 5 := by omega
  rcases this with rfl | rfl | rfl | rfl | rfl | rfl <;> exact ⟨_, by simp [World.cell?, h]; rfl⟩
theorem lit3 {W : World} {b : Nat} {a0 a1 a2 : Int} {t : TypeId} (h : W.heap[b]? = some (.cells #[.int .i64 a0, .int .i64 a1, .int .i64 a2] t (0, 0))) {y : Nat} (hy : y < 3) : ∃ v, W.cell? ⟨b, y, none⟩ = some (.int .i64 v) := by
  have : y = 0 ∨ y = 1 ∨ y = 2 := by omega
  rcases this with rfl | rfl | rfl <;> exact ⟨_, by simp [World.cell?, h]; rfl⟩

theorem EOwn.at0 {w : World} {base g cap : Nat} {a b : Int} {t : List (Int × Int)} (h : EOwn w base g cap ((a, b) :: t)) : w.cell? ⟨g, 0, none⟩ = some (.int .i64 a) := by
  have := h.has.cell (j := 0) (by simp)
  simpa [er, Lf] using this
theorem EOwn.at1 {w : World} {base g cap : Nat} {a b : Int} {t : List (Int × Int)} (h : EOwn w base g cap ((a, b) :: t)) : w.cell? ⟨g, 1, none⟩ = some (.int .i64 b) := by
  have := h.has.cell (j := 1) (by simp; omega)
  simpa [er, Hf] using this
theorem EOwn.put1 {w : World} {base g cap : Nat} {a b : Int} {t : List (Int × Int)} (h : EOwn w base g cap ((a, b) :: t)) (v : Int) : EOwn (w.setCell ⟨g, 1, none⟩ (.int .i64 v)) base g cap ((a, v) :: t) := by
  obtain ⟨hl, h0 | ⟨g', cap', cur, hv, hb, hh, h1, h2, h3, h4⟩⟩ := h
  · simp at h0
  · simp at hv
    obtain ⟨rfl, rfl⟩ := hv
    refine ⟨by simpa [ecells] using hl, .inr ⟨g, cap, cur.setIfInBounds 1 (.int .i64 v), rfl, hb, ?_, by simpa using h1, by simpa using h2, by simpa using h3, ?_⟩⟩
    · simp [World.setCell, Array.getElem?_modify, hh]
    · have h4' : List.take (((a, v) :: t).length * 2) cur.toList = ecells ((a, b) :: t) := h4
      rw [Array.toList_setIfInBounds, List.take_set, h4']
      simp [ecells]
theorem ecells_take (l : List (Int × Int)) : ∀ k, (ecells l).take (k * 2) = ecells (l.take k) := by
  induction l with
  | nil => intro k; simp [ecells]
  | cons e l ih =>
    intro k
    match k with
    | 0 => simp [ecells]
    | k + 1 =>
      have h1 : ecells (e :: l) = .int .i64 e.1 :: .int .i64 e.2 :: ecells l := by simp [ecells]
      have h2 : (k + 1) * 2 = k * 2 + 1 + 1 := by omega
      rw [h1, h2, List.take_succ_cons, List.take_succ_cons, ih k, List.take_succ_cons]
      simp [ecells]
theorem ecells_drop (l : List (Int × Int)) : ∀ k j, (ecells (l.drop k))[j]? = (ecells l)[k * 2 + j]? := by
  induction l with
  | nil => intro k j; simp [ecells]
  | cons e l ih =>
    intro k j
    match k with
    | 0 => simp
    | k + 1 =>
      have h1 : ecells (e :: l) = .int .i64 e.1 :: .int .i64 e.2 :: ecells l := by simp [ecells]
      have h2 : (k + 1) * 2 + j = (k * 2 + j) + 1 + 1 := by omega
      rw [List.drop_succ_cons, ih k j, h1, h2]
      simp
theorem EOwn.cut {w : World} {base g cap k : Nat} {l : List (Int × Int)} (h : EOwn w base g cap l) (hk : k ≤ l.length) : EOwn w base g cap (l.take k) := by
  obtain ⟨hl, h0 | ⟨g', cap', cur, hv, hb, hg, h1, h2, h3, h4⟩⟩ := h
  · simp at h0
  simp at hv
  obtain ⟨rfl, rfl⟩ := hv
  have e : (l.take k).length = k := by rw [List.length_take]; omega
  unfold EOwn
  rw [e]
  refine ⟨by rw [ecells_len, e], .inr ⟨g, cap, cur, rfl, hb, hg, by omega, h2, h3, ?_⟩⟩
  rw [← ecells_take, ← h4, List.take_take, Nat.min_eq_left (by omega)]
/-- One edge is cut out, in place. -/
theorem step_append_cut {w : World} {ops : Array Oper} {o : Oper} {a : Act} {K : Act → World → Prop} {Q : Exit → Act → World → Prop} {E : Prop} (hgd : o.guard = none) (s x : Operand)
    (ho : o.op = .call { callee := .builtin .append, args := #[s, x], argTypes := #[24, 24] }) (base g k cap : Nat) (l : List (Int × Int)) (hs : a.eval s = .slice (some ⟨g, 0, none⟩) k cap)
    (hown : EOwn w base g cap l) (hk : k < l.length) (ad : Addr) (c : Nat) (hx : a.eval x = .slice (some ad) (l.length - (k + 1)) c) (had : 0 < l.length - (k + 1) → ad = ⟨g, (k + 1) * 2, none⟩)
    (h : ∀ w' l', l'.length = l.length - 1 → EOwn w' base g cap l' → w.grownBy w' (some g) → K (a.put o.dst (.slice (some ⟨g, 0, none⟩) (l.length - 1) cap)) w') :
    if Region.wanted o (yielded ops a.tmps) = true then Oper.wp Try.prog o a w K Q else E := by
  have hw : Region.wanted o (yielded ops a.tmps) = true := by simp [Region.wanted, hgd]
  rw [if_pos hw]
  obtain ⟨i, hi, hz0, hz1, hz2⟩ := info_parts Try.infoEdge
  have hh := hown.has
  obtain ⟨hl, h0 | ⟨g', cap', cur, hv, hb, hg, h1, h2, h3, h4⟩⟩ := hown
  · simp at h0
  simp at hv
  obtain ⟨rfl, rfl⟩ := hv
  have hcut : w.ownsRow base 38 2 (.slice (some ⟨g, 0, none⟩) k cap) k (ecells (l.take k)) := by
    refine ⟨by rw [ecells_len, List.length_take]; omega, .inr ⟨g, cap, cur, rfl, hb, hg, by omega, h2, h3, ?_⟩⟩
    rw [← ecells_take, ← h4, List.take_take, Nat.min_eq_left (by omega)]
  have hsum : k + (l.length - (k + 1)) = l.length - 1 := by omega
  obtain ⟨w', hr, r1, r2⟩ := run_append_fits (P := Try.prog) w base 24 o.type 38 i 2 Try.underlying24 hi hz1 g k cap (ecells (l.take k)) hcut ad (l.length - (k + 1)) c (ecells (l.drop (k + 1))) (by rw [ecells_len, List.length_drop]) (fun j u hu => by
      have hj : j < (l.length - (k + 1)) * 2 := by
        have := (List.getElem?_eq_some_iff.1 hu).1
        rw [ecells_len, List.length_drop] at this
        exact this
      rw [had (by omega)]
      rw [ecells_drop, ecells_at l _ (by omega)] at hu
      simp at hu
      subst hu
      rw [Addr.add_mid]
      have := hh.cell (j := (k + 1) * 2 + j) (by omega)
      simpa using this) (fun u hu => by
      simp [ecells] at hu
      obtain ⟨_, _, _, h | h⟩ := hu <;> (subst h; rfl)) (by omega)
  unfold Oper.wp execOp
  simp only [ho, resolve, invoke, builtin, Sem.run_bind, Sem.run_pure, Result.andThen_ok, List.map_toArray, List.map_cons, List.map_nil, hs, hx, hr]
  rw [hsum] at r1 ⊢
  refine h w' (l.take k ++ l.drop (k + 1)) (by rw [List.length_append, List.length_take, List.length_drop]; omega) ?_ r2
  have e1 : ecells (l.take k) ++ ecells (l.drop (k + 1)) = ecells (l.take k ++ l.drop (k + 1)) := by simp [ecells]
  have e2 : (l.take k ++ l.drop (k + 1)).length = l.length - 1 := by rw [List.length_append, List.length_take, List.length_drop]; omega
  unfold EOwn
  rw [e2, ← e1]
  exact r1
/-- What stands while edges are drawn: the cursor, a list of the call's own; nothing else that lay has turned. -/
structure EW (w : World) (base c : Nat) (ao : Option Addr) (n cap : Nat) (g ec : Nat) (l : List (Int × Int)) (W : World) : Prop where
  cur : CurAt W base c ao n cap
  own : EOwn W w.heap.size g ec l
  gr : w.grownBy W (some c)
section
variable {w W W' : World} {base c : Nat} {ao : Option Addr} {n cap g ec : Nat} {l : List (Int × Int)}
theorem EW.step (h : EW w base c ao n cap g ec l W) (hc : c < w.heap.size) (hC : CurAt W' base c ao n cap) (hg : W.grownBy W' (some c)) : EW w base c ao n cap g ec l W' :=
  ⟨hC, h.own.grown hg (by have := h.own.base; simp; omega), h.gr.trans hg⟩
theorem EW.next (h : EW w base c ao n cap g ec l W) (hb : Below W.heap.size W W') : EW w base c ao n cap g ec l W' :=
  ⟨h.cur.next hb, h.own.next hb, h.gr.trans ⟨hb.os, hb.tape, hb.output, hb.size, fun k hk _ => hb.block k hk⟩⟩
theorem EW.other (h : EW w base c ao n cap g ec l W) (hc : c < w.heap.size) (hg : W.grownBy W' (some g)) {g' ec' : Nat} {l' : List (Int × Int)} (ho : EOwn W' w.heap.size g' ec' l') : EW w base c ao n cap g' ec' l' W' := by
  have hge := h.cur.ge
  have hb := h.own.base
  exact ⟨h.cur.grown hg (by omega) (by omega), ho, gr_far h.gr hg (fun q e => by cases e; exact hb) (Nat.le_refl _)⟩
end

theorem ans_rowE {W w' : World} {ao : Option Addr} {m : Nat} {D : Nat → Int} (h : 0 < m → ∃ g, ao = some ⟨g, 0, none⟩ ∧ W.heap.size ≤ g ∧ IHas w' g m D) : IRow w' ao m D := fun k hk => by
  obtain ⟨g, e, _, hI⟩ := h (by omega)
  subst e
  exact hI.row k hk

set_option maxRecDepth 100000 in
set_option maxHeartbeats 8000000 in
theorem l4Draw_any (base c : Nat) (ao : Option Addr) (n cap : Nat) (w : World) (hC : CurAt w base c ao n cap) :
    Calls Try.prog 13 #[.pointer (some ⟨c, 0, none⟩)] w fun e w' => ∃ (g ec : Nat) (l : List (Int × Int)) (x : Int), e = .returned (.tuple #[.slice (some ⟨g, 0, none⟩) l.length ec, .int .i64 x]) ∧ l.length ≤ 300 ∧ EW w base c ao n cap g ec l w' := by
  have hcl := hC.lt
  go_enter Try.func13, Try.ntmps13
  go_wp2_with fail
  refine (l1Draw_any base c ao n cap _ hC).mono ?_
  rintro e w1 ⟨p, go, k, gc, rfl, ⟨hp1, hp9⟩, hk, hO1, hC1, hg1⟩
  obtain ⟨F, T, G, hr1, _⟩ := hO1.row
  have hal := (Below.refl w1.heap.size w1).alloc (Nat.le_refl _) (.cells #[.int .i64 (p : Int), .slice go k gc] 32)
  have hr2 := hr1.alloc (.cells #[.int .i64 (p : Int), .slice go k gc] 32)
  have hC2 := hC1.next hal
  have hk' : k ≤ 1048576 := by omega
  have hs1 := hg1.size
  obtain ⟨m, hm⟩ : ∃ m, lenO p k F T G = m := ⟨_, rfl⟩
  obtain ⟨D, hD⟩ : ∃ D, listO p k F T = D := ⟨_, rfl⟩
  have hm24 : m ≤ 24 := by rw [← hm]; exact lenO_le p k F T G
  have hso := fun W hr' => specOrder_any p go k gc F T G hk' W hr'
  rw [hm, hD] at hso
  have HSO : Hid (∀ W, Row W go k F T G → Calls Try.prog 25 #[.agg #[.int .i64 (p : Int), .slice go k gc]] W fun e w' => Ans W w' e m D) := hso
  have HSF : Hid (∀ W ao' cap', Row W go k F T G → IRow W ao' m D → Calls Try.prog 10 #[.agg #[.int .i64 (p : Int), .slice go k gc], .slice ao' m cap'] W fun e w' => ∃ g ec l, e = .returned (.slice (some ⟨g, 0, none⟩) l.length ec) ∧ l.length ≤ 216 ∧ EOwn w' W.heap.size g ec l ∧ Below W.heap.size W w') := fun W ao' cap' h1 h2 =>
    (specFill_own (p : Int) go k gc F T G ao' m cap' D hk' (by omega) W h1 h2).mono (fun e w' ⟨g, ec, l, h3, h4, h5, h6⟩ => ⟨g, ec, l, h3, by
      rw [h4]
      split
      · unfold lstF
        rw [Int.toNat_natCast]
        have := allS_len (B := nbA F T k) (P := D) (show p ≤ 24 by omega) p
        omega
      · simp, h5, h6⟩)
  clear hso hm hD hr1 hO1
  have g0 : (w1.alloc (.cells #[.int .i64 (p : Int), .slice go k gc] 32)).cell? ⟨w1.heap.size, 0, none⟩ = some (.int .i64 (p : Int)) := by simp [go_sem]
  have g1 : (w1.alloc (.cells #[.int .i64 (p : Int), .slice go k gc] 32)).cell? ⟨w1.heap.size, 1, none⟩ = some (.slice go k gc) := by simp [go_sem]
  have hgr2 : w.grownBy (w1.alloc (.cells #[.int .i64 (p : Int), .slice go k gc] 32)).drew (some c) := hg1.trans ⟨rfl, rfl, rfl, by show _ ≤ (w1.alloc _).heap.size; simp, fun b hb _ => hal.block b hb⟩
  go_wp2_with fail
  generalize hW2 : w1.alloc (.cells #[.int .i64 (p : Int), .slice go k gc] 32) = w2 at hr2 hC2 g0 g1 hgr2 ⊢
  have hz2 : w1.heap.size ≤ w2.heap.size := by rw [← hW2]; simp
  have hrd := hr2.below (Below.refl w2.heap.size w2).drew (Nat.le_refl _)
  have hCd := hC2.next (Below.refl w2.heap.size w2).drew
  generalize w1.heap.size = gb at g0 g1 hz2 hs1 ⊢
  clear hW2 hal hC1 hg1
  go_region_held3 (fun w' => w'.cell? ⟨gb, 0, none⟩ = some (.int .i64 (p : Int)) ∧ w'.cell? ⟨gb, 1, none⟩ = some (.slice go k gc))
    (first | (go_split_ands; refine ⟨?_, ?_⟩ <;> first | exact keep_cell hb4 (Nat.le_refl _) (by assumption) | exact keep_cell hb3 (Nat.le_refl _) (by assumption)) | go_keep)
    (first | (go_at_call 25; refine (HSO.out _ hrd).mono ?_; rintro e w3 ⟨aoO, capO, rfl, hO3, hb3⟩; have hr3 := hrd.below hb3 (Nat.le_refl _); have hx3 := ans_rowE hO3)
            | (go_at_call 10; refine (HSF.out _ _ _ hr3 hx3).mono ?_; rintro e w4 ⟨g, ec, l, rfl, hll, hE4, hb4⟩))
  have hBa := below_next (below_next (Below.refl w2.heap.size w2).drew (Nat.le_refl _) hb3) (Nat.le_refl _) hb4
  have h0 := keep_cell hBa (Nat.le_refl _) g0
  have hz3 := hb3.size
  have hz2' : w2.heap.size ≤ w3.heap.size := hz3
  have hW4 : EW w base c ao n cap g ec l w4 := ⟨(hCd.next hb3).next hb4, hE4.from (by omega), (hgr2.trans ⟨hb3.os, hb3.tape, hb3.output, hb3.size, fun q hq _ => hb3.block q hq⟩).trans ⟨hb4.os, hb4.tape, hb4.output, hb4.size, fun q hq _ => hb4.block q hq⟩⟩
  clear hE4 hBa hb3 hb4 hrd hCd hr3 hx3 hO3 g0 g1 hgr2 hr2 hC2 HSO HSF
  go_wp2_with fail
  refine (l1Once_any _ c ao n cap 8 (by omega) (by omega) _ hW4.cur).mono ?_
  rintro e w5 ⟨bx, rfl, hC5, hg5⟩
  have hW5 := hW4.step hcl hC5 hg5
  clear hC5 hg5 hW4 h0
  cases bx
  · go_wp2
    exact bodyPost_ret (v := .tuple #[.slice (some ⟨g, 0, none⟩) l.length ec, .int .i64 (p : Int)]) (by simp [results, Try.results13, go_sem]) rfl ⟨g, ec, l, (p : Int), rfl, by omega, hW5⟩
  go_wp2_with fail
  refine (l1Below_any _ c ao n cap 4 (by omega) (by omega) _ hW5.cur).mono ?_
  rintro e w6 ⟨z, rfl, hz, hC6, hg6⟩
  have hW6 := hW5.step hcl hC6 hg6
  clear hC6 hg6 hW5
  have hz4 : z = 0 ∨ z = 1 ∨ z = 2 ∨ z = 3 := by omega
  rcases hz4 with rfl | rfl | rfl | rfl
  · have hal6 := (Below.refl w6.heap.size w6).alloc (Nat.le_refl _) (.cells #[.int .i64 0, .int .i64 ((p : Int) - 1), .int .i64 ((p : Int) + 1), .int .i64 24, .int .i64 25, .int .i64 (-9223372036854775808)] 2)
    have hW7 := hW6.next hal6
    have hc6 := hW6.cur.lt
    clear hW6
    go_wp2_with fail
    refine (l1Below_any _ c ao n cap 6 (by omega) (by omega) _ hW7.cur).mono ?_
    rintro e w8 ⟨x, rfl, hx, hC8, hg8⟩
    have hW8 := hW7.step hcl hC8 hg8
    obtain ⟨v, hv⟩ := lit6 ((hg8.block w6.heap.size (by simp) (by simp <;> omega)).trans (Go.Deep.blk_alloc_new _ _)) (show x < 6 by omega)
    have hx6 : (x : Int) < 6 := by omega
    clear hC8 hg8 hW7 hal6
    go_wp2
    exact bodyPost_ret (v := .tuple #[.slice (some ⟨g, 0, none⟩) l.length ec, .int .i64 v]) (by simp [results, Try.results13, go_sem]) rfl ⟨g, ec, l, v, rfl, by omega, hW8⟩
  · by_cases hl0 : 0 < l.length
    rotate_left
    · have hl0' : ¬ 0 < (l.length : Int) := by omega
      go_wp2
      exact bodyPost_ret (v := .tuple #[.slice (some ⟨g, 0, none⟩) l.length ec, .int .i64 (p : Int)]) (by simp [results, Try.results13, go_sem]) rfl ⟨g, ec, l, (p : Int), rfl, by omega, hW6⟩
    have hl0' : 0 < (l.length : Int) := by omega
    go_wp2_with fail
    refine (l1Below_any _ c ao n cap l.length (by omega) (by omega) _ hW6.cur).mono ?_
    rintro e w7 ⟨x, rfl, hx, hC7, hg7⟩
    have hW7 := hW6.step hcl hC7 hg7
    clear hC7 hg7 hW6
    have hroom := hW7.own.room
    have hxl : x < l.length := by omega
    have hx1 : (x : Int) ≤ (ec : Int) := by omega
    have hx2 : (x : Int) + 1 ≤ (l.length : Int) := by omega
    have hx3 : IntKind.i64.wrap ((x : Int) + 1) = (x : Int) + 1 := by rw [IntKind.wrap_i64]; omega
    have hx4 : ((x : Int) + 1).toNat = x + 1 := by omega
    have hx5 : (0 : Int) ≤ (x : Int) + 1 := by omega
    have hx6 : (x : Int) ≤ (x : Int) + 1 := by omega
    have hWd := hW7.next (Below.refl w7.heap.size w7).drew
    clear hW7
    by_cases hce : ec = x + 1
    · subst hce
      go_wp2
      go_region_law (fail)
      have hW8 : EW w base c ao n cap g (x + 1) (l.take x) w7.drew := ⟨hWd.cur, hWd.own.cut (by omega), hWd.gr⟩
      have hlt : (l.take x).length = x := by rw [List.length_take]; omega
      clear hWd
      go_wp2
      exact bodyPost_ret (v := .tuple #[.slice (some ⟨g, 0, none⟩) x (x + 1), .int .i64 (p : Int)]) (by simp [results, Try.results13, go_sem]) rfl ⟨g, x + 1, l.take x, (p : Int), by rw [hlt], by omega, hW8⟩
    · have hce2 : x + 1 < ec := by omega
      go_wp2
      go_region_law (refine step_append_cut ?_ (.tmp 42) (.tmp 46) ?_ w.heap.size g x ec l ?_ hWd.own hxl ⟨g, (x + 1) * 2, none⟩ (ec - (x + 1)) ?_ (fun _ => rfl) ?_; rfl; rfl; (focus (simp [go_sem]; done)); (focus (simp [go_sem]; done)); intro w8 l' hl' hown8 hgrow8)
      all_goals
        have hW8 := hWd.other hcl hgrow8 hown8
        clear hWd hgrow8 hown8
        go_wp2
        exact bodyPost_ret (v := .tuple #[.slice (some ⟨g, 0, none⟩) (l.length - 1) ec, .int .i64 (p : Int)]) (by simp [results, Try.results13, go_sem]) rfl ⟨g, ec, l', (p : Int), by rw [hl'], by omega, hW8⟩
  · go_wp2_with fail
    refine (l1From8_any _ c ao n cap _ hW6.cur).mono ?_
    rintro e w7 ⟨x, rfl, hC7, hg7⟩
    have hW7 := hW6.step hcl hC7 hg7
    clear hC7 hg7 hW6
    go_wp2_with fail
    refine (l1From_any _ c ao n cap _ hW7.cur).mono ?_
    rintro e w8 ⟨y, rfl, hC8, hg8⟩
    have hW8 := hW7.step hcl hC8 hg8
    clear hC8 hg8 hW7
    have hW9 := hW8.next ((Below.refl w8.heap.size w8).alloc (Nat.le_refl _) (.cells #[.int .i64 x, .int .i64 y] 38))
    have hbz := hW8.gr.size
    clear hW8
    go_wp2_with (at_builtin; refine wpList_append_edge rfl _ _ rfl w.heap.size g ec l rfl hW9.own w8.heap.size 1 x y rfl (by simp [go_sem]) (by simp [go_sem]) (by omega) (by simp; omega) ?_; intro g' ec' w10 hown10 hgrow10 hat10)
    have hW10 := hW9.other hcl hgrow10 hown10
    clear hW9 hgrow10 hat10 hown10
    have hlen : (l ++ [(x, y)]).length = l.length + 1 := by simp
    go_wp2
    exact bodyPost_ret (v := .tuple #[.slice (some ⟨g', 0, none⟩) (l.length + 1) ec', .int .i64 (p : Int)]) (by simp [results, Try.results13, go_sem]) rfl ⟨g', ec', l ++ [(x, y)], (p : Int), by rw [hlen], by rw [hlen]; omega, hW10⟩
  · by_cases hl0 : 0 < l.length
    rotate_left
    · have hl0' : ¬ 0 < (l.length : Int) := by omega
      go_wp2
      exact bodyPost_ret (v := .tuple #[.slice (some ⟨g, 0, none⟩) l.length ec, .int .i64 (p : Int)]) (by simp [results, Try.results13, go_sem]) rfl ⟨g, ec, l, (p : Int), rfl, by omega, hW6⟩
    have hl0' : 0 < (l.length : Int) := by omega
    match l, hl0, hl0', hll, hW6 with
    | (a, b) :: t, hl0, hl0', hll, hW6 =>
    obtain ⟨m', hm'⟩ : ∃ m', ((a, b) :: t).length = m' := ⟨_, rfl⟩
    have hE6 := hW6.own.has
    have c0 : w6.cell? ⟨g, 0, none⟩ = some (.int .i64 a) := by
      have := hE6.cell (j := 0) (by simp)
      simpa [er, Lf] using this
    have hWd := hW6.next (Below.refl w6.heap.size w6).drew
    have hWa := (hW6.next ((Below.refl w6.heap.size w6).alloc (Nat.le_refl _) (.cells #[.int .i64 a, .int .i64 99, .int .i64 4611686018427387904] 2))).next (Below.refl _ _).drew
    have hgl := hW6.own.lt
    have hcw := hW6.cur.lt
    clear hW6 hE6
    rw [hm'] at hl0 hl0' hll ⊢
    go_wp2
    go_region_law (first
      | (go_simp; go_at_call 27; refine (l1Below_any base c ao n cap 3 (by omega) (by omega) _ hWa.cur).mono ?_; rintro e w7 ⟨y, rfl, hy, hC7, hg7⟩; have hW7 := hWa.step hcl hC7 hg7; obtain ⟨v, hv⟩ := lit3 ((hg7.block w6.heap.size (by simp) (by simp <;> omega)).trans (Go.Deep.blk_alloc_new w6 (.cells #[.int .i64 a, .int .i64 99, .int .i64 4611686018427387904] 2))) (show y < 3 by omega); have e0 := hW7.own.at0; have e1 := hW7.own.at1; have z1 := hW7.own.has.frozen 1; have hy3 : (y : Int) < 3 := (by omega); have hgl7 := hW7.own.lt; clear hC7 hg7)
      | (go_simp; go_at_call 27; refine (l1Below_any base c ao n cap 3 (by omega) (by omega) _ hWd.cur).mono ?_; rintro e w7 ⟨y, rfl, hy, hC7, hg7⟩; have hW7 := hWd.step hcl hC7 hg7; obtain ⟨v, hv⟩ := lit3 (Go.Deep.blk_alloc_new w7 (.cells #[.int .i64 a, .int .i64 99, .int .i64 4611686018427387904] 2)) (show y < 3 by omega); have e0 := hW7.own.at0; have e1 := hW7.own.at1; have z1 := hW7.own.has.frozen 1; have hy3 : (y : Int) < 3 := (by omega); have hgl7 := hW7.own.lt; clear hC7 hg7))
    all_goals
      have hW8 := hW7.other hcl (gr_setCell w7 g 1 (.int .i64 v)) (hW7.own.put1 v)
      have hln : ((a, v) :: t).length = m' := by rw [← hm']; simp
      have hW9 := hW8.next ((Below.refl _ _).alloc (Nat.le_refl _) (.cells #[.int .i64 a, .int .i64 99, .int .i64 4611686018427387904] 2))
      clear hW7 hWa hWd
      go_wp2
      first
      | exact bodyPost_ret (v := .tuple #[.slice (some ⟨g, 0, none⟩) m' ec, .int .i64 (p : Int)]) (by simp [results, Try.results13, go_sem]) rfl ⟨g, ec, (a, v) :: t, (p : Int), by rw [hln], by rw [hln]; omega, hW8⟩
      | exact bodyPost_ret (v := .tuple #[.slice (some ⟨g, 0, none⟩) m' ec, .int .i64 (p : Int)]) (by simp [results, Try.results13, go_sem]) rfl ⟨g, ec, (a, v) :: t, (p : Int), by rw [hln], by rw [hln]; omega, hW9⟩

end Go.Proofs.Ytaddhiojahmbpab
