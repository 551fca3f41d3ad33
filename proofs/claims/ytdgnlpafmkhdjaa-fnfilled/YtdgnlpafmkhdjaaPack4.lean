/-
  Helpers, merged: DrawEd, FnBase, DrawEd2, DrawCh, EdOk, Cmp, EdOkImpl, Par, ParSp, ChdP, FillM, OkI, OkImpl, RankImpl, OrderOk.
-/
import Derived.Test.YtdgnlpafmkhdjaaPack3
import Derived.Test.YtdgnlpafmkhdjaaPack2
import Derived.Deep.QuietTactic
import Derived.Test.YtdgnlpafmkhdjaaPack1
import Derived.BigQuiet
import Derived.Deep.DrawnRows
/-
  The document's draw of edges: mostly a fill. What is drawn is told by existence alone.
-/
set_option linter.unusedVariables false
set_option linter.unusedSimpArgs false
namespace Go.Proofs.Ytdgnlpafmkhdjaa
open Go.RowKit Go.Maps
attribute [local go_sem ↓] Go.wp_at_zero Go.wp_at_succ

theorem l1From8_any (base c : Nat) (ao : Option Addr) (n cap : Nat) (w : World) (hC : CurAt w base c ao n cap) :
    Calls Try.prog 85 #[.pointer (some ⟨c, 0, none⟩), .int .i64 (-1), .int .i64 8] w fun e w' => ∃ x : Int, e = .returned (.int .i64 x) ∧ CurAt w' base c ao n cap ∧ w.grownBy w' (some c) := by
  go_enter Try.func85, Try.ntmps85
  go_wp2_with (go_at_call 53; refine (l1Below_any base c ao n cap _ (by omega) (by omega) _ hC).mono ?_; rintro e w1 ⟨x, rfl, hx, hC1, hg1⟩)
  go_ret
  exact ⟨_, rfl, hC1, hg1⟩
theorem lit6 {W : World} {b : Nat} {a0 a1 a2 a3 a4 a5 : Int} {t : TypeId} (h : W.heap[b]? = some (.cells #[.int .i64 a0, .int .i64 a1, .int .i64 a2, .int .i64 a3, .int .i64 a4, .int .i64 a5] t (0, 0))) {y : Nat} (hy : y < 6) : ∃ v, W.cell? ⟨b, y, none⟩ = some (.int .i64 v) := by
  have : y = 0 ∨ y = 1 ∨ y = 2 ∨ y = 3 ∨ y = 4 ∨ y = 5 := by omega
  rcases this with rfl | rfl | rfl | rfl | rfl | rfl <;> exact ⟨_, by simp [World.cell?, h]; rfl⟩
theorem lit3 {W : World} {b : Nat} {a0 a1 a2 : Int} {t : TypeId} (h : W.heap[b]? = some (.cells #[.int .i64 a0, .int .i64 a1, .int .i64 a2] t (0, 0))) {y : Nat} (hy : y < 3) : ∃ v, W.cell? ⟨b, y, none⟩ = some (.int .i64 v) := by
  have : y = 0 ∨ y = 1 ∨ y = 2 := by omega
  rcases this with rfl | rfl | rfl <;> exact ⟨_, by simp [World.cell?, h]; rfl⟩

theorem EOwn.at0 {w : World} {base g cap : Nat} {a b : Int} {t : List (Int × Int)} (h : EOwn w base g cap ((a, b) :: t)) : w.cell? ⟨g, 0, none⟩ = some (.int .i64 a) := by
  have := h.has.cell (j := 0) (by simp)
  simpa [er, Lf] using this
theorem EOwn.at1 {w : World} {base g cap : Nat} {a b : Int} {t : List (Int × Int)} (h : EOwn w base g cap ((a, b) :: t)) : w.cell? ⟨g, 1, none⟩ = some (.int .i64 b) := by
  have := h.has.cell (j := 1) (by simp; omega)
  simpa [er, Hf] using this
theorem EOwn.put1 {w : World} {base g cap : Nat} {a b : Int} {t : List (Int × Int)} (h : EOwn w base g cap ((a, b) :: t)) (v : Int) : EOwn (w.setCell ⟨g, 1, none⟩ (.int .i64 v)) base g cap ((a, v) :: t) := by
  obtain ⟨hl, h0 | ⟨g', cap', cur, hv, hb, hh, h1, h2, h3, h4⟩⟩ := h
  · simp at h0
  · simp at hv
    obtain ⟨rfl, rfl⟩ := hv
    refine ⟨by simpa [ecells] using hl, .inr ⟨g, cap, cur.setIfInBounds 1 (.int .i64 v), rfl, hb, ?_, by simpa using h1, by simpa using h2, by simpa using h3, ?_⟩⟩
    · simp [World.setCell, Array.getElem?_modify, hh]
    · have h4' : List.take (((a, v) :: t).length * 2) cur.toList = ecells ((a, b) :: t) := h4
      rw [Array.toList_setIfInBounds, List.take_set, h4']
      simp [ecells]
theorem ecells_take (l : List (Int × Int)) : ∀ k, (ecells l).take (k * 2) = ecells (l.take k) := by
  induction l with
  | nil => intro k; simp [ecells]
  | cons e l ih =>
    intro k
    match k with
    | 0 => simp [ecells]
    | k + 1 =>
      have h1 : ecells (e :: l) = .int .i64 e.1 :: .int .i64 e.2 :: ecells l := by simp [ecells]
      have h2 : (k + 1) * 2 = k * 2 + 1 + 1 := by omega
      rw [h1, h2, List.take_succ_cons, List.take_succ_cons, ih k, List.take_succ_cons]
      simp [ecells]
theorem ecells_drop (l : List (Int × Int)) : ∀ k j, (ecells (l.drop k))[j]? = (ecells l)[k * 2 + j]? := by
  induction l with
  | nil => intro k j; simp [ecells]
  | cons e l ih =>
    intro k j
    match k with
    | 0 => simp
    | k + 1 =>
      have h1 : ecells (e :: l) = .int .i64 e.1 :: .int .i64 e.2 :: ecells l := by simp [ecells]
      have h2 : (k + 1) * 2 + j = (k * 2 + j) + 1 + 1 := by omega
      rw [List.drop_succ_cons, ih k j, h1, h2]
      simp
theorem EOwn.cut {w : World} {base g cap k : Nat} {l : List (Int × Int)} (h : EOwn w base g cap l) (hk : k ≤ l.length) : EOwn w base g cap (l.take k) := by
  obtain ⟨hl, h0 | ⟨g', cap', cur, hv, hb, hg, h1, h2, h3, h4⟩⟩ := h
  · simp at h0
  simp at hv
  obtain ⟨rfl, rfl⟩ := hv
  have e : (l.take k).length = k := by rw [List.length_take]; omega
  unfold EOwn
  rw [e]
  refine ⟨by rw [ecells_len, e], .inr ⟨g, cap, cur, rfl, hb, hg, by omega, h2, h3, ?_⟩⟩
  rw [← ecells_take, ← h4, List.take_take, Nat.min_eq_left (by omega)]
/-- One edge is cut out, in place. -/
theorem step_append_cut {w : World} {ops : Array Oper} {o : Oper} {a : Act} {K : Act → World → Prop} {Q : Exit → Act → World → Prop} {E : Prop} (hgd : o.guard = none) (s x : Operand)
    (ho : o.op = .call { callee := .builtin .append, args := #[s, x], argTypes := #[50, 50] }) (base g k cap : Nat) (l : List (Int × Int)) (hs : a.eval s = .slice (some ⟨g, 0, none⟩) k cap)
    (hown : EOwn w base g cap l) (hk : k < l.length) (ad : Addr) (c : Nat) (hx : a.eval x = .slice (some ad) (l.length - (k + 1)) c) (had : 0 < l.length - (k + 1) → ad = ⟨g, (k + 1) * 2, none⟩)
    (h : ∀ w' l', l'.length = l.length - 1 → EOwn w' base g cap l' → w.grownBy w' (some g) → K (a.put o.dst (.slice (some ⟨g, 0, none⟩) (l.length - 1) cap)) w') :
    if Region.wanted o (yielded ops a.tmps) = true then Oper.wp Try.prog o a w K Q else E := by
  have hw : Region.wanted o (yielded ops a.tmps) = true := by simp [Region.wanted, hgd]
  rw [if_pos hw]
  obtain ⟨i, hi, hz0, hz1, hz2⟩ := info_parts Try.infoEdge
  have hh := hown.has
  obtain ⟨hl, h0 | ⟨g', cap', cur, hv, hb, hg, h1, h2, h3, h4⟩⟩ := hown
  · simp at h0
  simp at hv
  obtain ⟨rfl, rfl⟩ := hv
  have hcut : w.ownsRow base 58 2 (.slice (some ⟨g, 0, none⟩) k cap) k (ecells (l.take k)) := by
    refine ⟨by rw [ecells_len, List.length_take]; omega, .inr ⟨g, cap, cur, rfl, hb, hg, by omega, h2, h3, ?_⟩⟩
    rw [← ecells_take, ← h4, List.take_take, Nat.min_eq_left (by omega)]
  have hsum : k + (l.length - (k + 1)) = l.length - 1 := by omega
  obtain ⟨w', hr, r1, r2⟩ := run_append_fits (P := Try.prog) w base 50 o.type 58 i 2 Try.underlying50 hi hz1 g k cap (ecells (l.take k)) hcut ad (l.length - (k + 1)) c (ecells (l.drop (k + 1))) (by rw [ecells_len, List.length_drop]) (fun j u hu => by
      have hj : j < (l.length - (k + 1)) * 2 := by
        have := (List.getElem?_eq_some_iff.1 hu).1
        rw [ecells_len, List.length_drop] at this
        exact this
      rw [had (by omega)]
      rw [ecells_drop, ecells_at l _ (by omega)] at hu
      simp at hu
      subst hu
      rw [Addr.add_mid]
      have := hh.cell (j := (k + 1) * 2 + j) (by omega)
      simpa using this) (fun u hu => by
      simp [ecells] at hu
      obtain ⟨_, _, _, h | h⟩ := hu <;> (subst h; rfl)) (by omega)
  unfold Oper.wp execOp
  simp only [ho, resolve, invoke, builtin, Sem.run_bind, Sem.run_pure, Result.andThen_ok, List.map_toArray, List.map_cons, List.map_nil, hs, hx, hr]
  rw [hsum] at r1 ⊢
  refine h w' (l.take k ++ l.drop (k + 1)) (by rw [List.length_append, List.length_take, List.length_drop]; omega) ?_ r2
  have e1 : ecells (l.take k) ++ ecells (l.drop (k + 1)) = ecells (l.take k ++ l.drop (k + 1)) := by simp [ecells]
  have e2 : (l.take k ++ l.drop (k + 1)).length = l.length - 1 := by rw [List.length_append, List.length_take, List.length_drop]; omega
  unfold EOwn
  rw [e2, ← e1]
  exact r1
/-- What stands while edges are drawn: the cursor, a list of the call's own; nothing else that lay has turned. -/
structure EW (w : World) (base c : Nat) (ao : Option Addr) (n cap : Nat) (g ec : Nat) (l : List (Int × Int)) (W : World) : Prop where
  cur : CurAt W base c ao n cap
  own : EOwn W w.heap.size g ec l
  gr : w.grownBy W (some c)
section
variable {w W W' : World} {base c : Nat} {ao : Option Addr} {n cap g ec : Nat} {l : List (Int × Int)}
theorem EW.step (h : EW w base c ao n cap g ec l W) (hc : c < w.heap.size) (hC : CurAt W' base c ao n cap) (hg : W.grownBy W' (some c)) : EW w base c ao n cap g ec l W' :=
  ⟨hC, h.own.grown hg (by have := h.own.base; simp; omega), h.gr.trans hg⟩
theorem EW.next (h : EW w base c ao n cap g ec l W) (hb : Below W.heap.size W W') : EW w base c ao n cap g ec l W' :=
  ⟨h.cur.next hb, h.own.next hb, h.gr.trans ⟨hb.os, hb.tape, hb.output, hb.size, fun k hk _ => hb.block k hk⟩⟩
theorem EW.other (h : EW w base c ao n cap g ec l W) (hc : c < w.heap.size) (hg : W.grownBy W' (some g)) {g' ec' : Nat} {l' : List (Int × Int)} (ho : EOwn W' w.heap.size g' ec' l') : EW w base c ao n cap g' ec' l' W' := by
  have hge := h.cur.ge
  have hb := h.own.base
  exact ⟨h.cur.grown hg (by omega) (by omega), ho, gr_far h.gr hg (fun q e => by cases e; exact hb) (Nat.le_refl _)⟩
end

theorem ans_rowE {W w' : World} {ao : Option Addr} {m : Nat} {D : Nat → Int} (h : 0 < m → ∃ g, ao = some ⟨g, 0, none⟩ ∧ W.heap.size ≤ g ∧ IHas w' g m D) : IRow w' ao m D := fun k hk => by
  obtain ⟨g, e, _, hI⟩ := h (by omega)
  subst e
  exact hI.row k hk

set_option maxRecDepth 100000 in
set_option maxHeartbeats 8000000 in
theorem l4Draw_any (base c : Nat) (ao : Option Addr) (n cap : Nat) (w : World) (hC : CurAt w base c ao n cap) :
    Calls Try.prog 99 #[.pointer (some ⟨c, 0, none⟩)] w fun e w' => ∃ (g ec : Nat) (l : List (Int × Int)) (x : Int), e = .returned (.tuple #[.slice (some ⟨g, 0, none⟩) l.length ec, .int .i64 x]) ∧ l.length ≤ 300 ∧ EW w base c ao n cap g ec l w' := by
  have hcl := hC.lt
  go_enter Try.func99, Try.ntmps99
  go_wp2_with fail
  refine (l1Draw_any base c ao n cap _ hC).mono ?_
  rintro e w1 ⟨p, go, k, gc, rfl, ⟨hp1, hp9⟩, hk, hO1, hC1, hg1⟩
  obtain ⟨F, T, G, hr1, _⟩ := hO1.row
  have hal := (Below.refl w1.heap.size w1).alloc (Nat.le_refl _) (.cells #[.int .i64 (p : Int), .slice go k gc] 26)
  have hr2 := hr1.alloc (.cells #[.int .i64 (p : Int), .slice go k gc] 26)
  have hC2 := hC1.next hal
  have hk' : k ≤ 1048576 := by omega
  have hs1 := hg1.size
  obtain ⟨m, hm⟩ : ∃ m, lenO p k F T G = m := ⟨_, rfl⟩
  obtain ⟨D, hD⟩ : ∃ D, listO p k F T = D := ⟨_, rfl⟩
  have hm24 : m ≤ 24 := by rw [← hm]; exact lenO_le p k F T G
  have hso := fun W hr' => specOrder_any p go k gc F T G hk' W hr'
  rw [hm, hD] at hso
  have HSO : Hid (∀ W, Row W go k F T G → Calls Try.prog 27 #[.agg #[.int .i64 (p : Int), .slice go k gc]] W fun e w' => Ans W w' e m D) := hso
  have HSF : Hid (∀ W ao' cap', Row W go k F T G → IRow W ao' m D → Calls Try.prog 36 #[.agg #[.int .i64 (p : Int), .slice go k gc], .slice ao' m cap'] W fun e w' => ∃ g ec l, e = .returned (.slice (some ⟨g, 0, none⟩) l.length ec) ∧ l.length ≤ 216 ∧ EOwn w' W.heap.size g ec l ∧ Below W.heap.size W w') := fun W ao' cap' h1 h2 =>
    (specFill_own (p : Int) go k gc F T G ao' m cap' D hk' (by omega) W h1 h2).mono (fun e w' ⟨g, ec, l, h3, h4, h5, h6⟩ => ⟨g, ec, l, h3, by
      rw [h4]
      split
      · unfold lstF
        rw [Int.toNat_natCast]
        have := allS_len (B := nbA F T k) (P := D) (show p ≤ 24 by omega) p
        omega
      · simp, h5, h6⟩)
  clear hso hm hD hr1 hO1
  have g0 : (w1.alloc (.cells #[.int .i64 (p : Int), .slice go k gc] 26)).cell? ⟨w1.heap.size, 0, none⟩ = some (.int .i64 (p : Int)) := by simp [go_sem]
  have g1 : (w1.alloc (.cells #[.int .i64 (p : Int), .slice go k gc] 26)).cell? ⟨w1.heap.size, 1, none⟩ = some (.slice go k gc) := by simp [go_sem]
  have hgr2 : w.grownBy (w1.alloc (.cells #[.int .i64 (p : Int), .slice go k gc] 26)).drew (some c) := hg1.trans ⟨rfl, rfl, rfl, by show _ ≤ (w1.alloc _).heap.size; simp, fun b hb _ => hal.block b hb⟩
  go_wp2_with fail
  generalize hW2 : w1.alloc (.cells #[.int .i64 (p : Int), .slice go k gc] 26) = w2 at hr2 hC2 g0 g1 hgr2 ⊢
  have hz2 : w1.heap.size ≤ w2.heap.size := by rw [← hW2]; simp
  have hrd := hr2.below (Below.refl w2.heap.size w2).drew (Nat.le_refl _)
  have hCd := hC2.next (Below.refl w2.heap.size w2).drew
  generalize w1.heap.size = gb at g0 g1 hz2 hs1 ⊢
  clear hW2 hal hC1 hg1
  go_region_held3 (fun w' => w'.cell? ⟨gb, 0, none⟩ = some (.int .i64 (p : Int)) ∧ w'.cell? ⟨gb, 1, none⟩ = some (.slice go k gc))
    (first | (go_split_ands; refine ⟨?_, ?_⟩ <;> first | exact keep_cell hb4 (Nat.le_refl _) (by assumption) | exact keep_cell hb3 (Nat.le_refl _) (by assumption)) | go_keep)
    (first | (go_at_call 27; refine (HSO.out _ hrd).mono ?_; rintro e w3 ⟨aoO, capO, rfl, hO3, hb3⟩; have hr3 := hrd.below hb3 (Nat.le_refl _); have hx3 := ans_rowE hO3)
            | (go_at_call 36; refine (HSF.out _ _ _ hr3 hx3).mono ?_; rintro e w4 ⟨g, ec, l, rfl, hll, hE4, hb4⟩))
  have hBa := below_next (below_next (Below.refl w2.heap.size w2).drew (Nat.le_refl _) hb3) (Nat.le_refl _) hb4
  have h0 := keep_cell hBa (Nat.le_refl _) g0
  have hz3 := hb3.size
  have hz2' : w2.heap.size ≤ w3.heap.size := hz3
  have hW4 : EW w base c ao n cap g ec l w4 := ⟨(hCd.next hb3).next hb4, hE4.from (by omega), (hgr2.trans ⟨hb3.os, hb3.tape, hb3.output, hb3.size, fun q hq _ => hb3.block q hq⟩).trans ⟨hb4.os, hb4.tape, hb4.output, hb4.size, fun q hq _ => hb4.block q hq⟩⟩
  clear hE4 hBa hb3 hb4 hrd hCd hr3 hx3 hO3 g0 g1 hgr2 hr2 hC2 HSO HSF
  go_wp2_with fail
  refine (l1Once_any _ c ao n cap 8 (by omega) (by omega) _ hW4.cur).mono ?_
  rintro e w5 ⟨bx, rfl, hC5, hg5⟩
  have hW5 := hW4.step hcl hC5 hg5
  clear hC5 hg5 hW4 h0
  cases bx
  · go_wp2
    exact bodyPost_ret (v := .tuple #[.slice (some ⟨g, 0, none⟩) l.length ec, .int .i64 (p : Int)]) (by simp [results, Try.results99, go_sem]) rfl ⟨g, ec, l, (p : Int), rfl, by omega, hW5⟩
  go_wp2_with fail
  refine (l1Below_any _ c ao n cap 4 (by omega) (by omega) _ hW5.cur).mono ?_
  rintro e w6 ⟨z, rfl, hz, hC6, hg6⟩
  have hW6 := hW5.step hcl hC6 hg6
  clear hC6 hg6 hW5
  have hz4 : z = 0 ∨ z = 1 ∨ z = 2 ∨ z = 3 := by omega
  rcases hz4 with rfl | rfl | rfl | rfl
  · have hal6 := (Below.refl w6.heap.size w6).alloc (Nat.le_refl _) (.cells #[.int .i64 0, .int .i64 ((p : Int) - 1), .int .i64 ((p : Int) + 1), .int .i64 24, .int .i64 25, .int .i64 (-9223372036854775808)] 2)
    have hW7 := hW6.next hal6
    have hc6 := hW6.cur.lt
    clear hW6
    go_wp2_with fail
    refine (l1Below_any _ c ao n cap 6 (by omega) (by omega) _ hW7.cur).mono ?_
    rintro e w8 ⟨x, rfl, hx, hC8, hg8⟩
    have hW8 := hW7.step hcl hC8 hg8
    obtain ⟨v, hv⟩ := lit6 ((hg8.block w6.heap.size (by simp) (by simp <;> omega)).trans (Go.Deep.blk_alloc_new _ _)) (show x < 6 by omega)
    have hx6 : (x : Int) < 6 := by omega
    clear hC8 hg8 hW7 hal6
    go_wp2
    exact bodyPost_ret (v := .tuple #[.slice (some ⟨g, 0, none⟩) l.length ec, .int .i64 v]) (by simp [results, Try.results99, go_sem]) rfl ⟨g, ec, l, v, rfl, by omega, hW8⟩
  · by_cases hl0 : 0 < l.length
    rotate_left
    · have hl0' : ¬ 0 < (l.length : Int) := by omega
      go_wp2
      exact bodyPost_ret (v := .tuple #[.slice (some ⟨g, 0, none⟩) l.length ec, .int .i64 (p : Int)]) (by simp [results, Try.results99, go_sem]) rfl ⟨g, ec, l, (p : Int), rfl, by omega, hW6⟩
    have hl0' : 0 < (l.length : Int) := by omega
    go_wp2_with fail
    refine (l1Below_any _ c ao n cap l.length (by omega) (by omega) _ hW6.cur).mono ?_
    rintro e w7 ⟨x, rfl, hx, hC7, hg7⟩
    have hW7 := hW6.step hcl hC7 hg7
    clear hC7 hg7 hW6
    have hroom := hW7.own.room
    have hxl : x < l.length := by omega
    have hx1 : (x : Int) ≤ (ec : Int) := by omega
    have hx2 : (x : Int) + 1 ≤ (l.length : Int) := by omega
    have hx3 : IntKind.i64.wrap ((x : Int) + 1) = (x : Int) + 1 := by rw [IntKind.wrap_i64]; omega
    have hx4 : ((x : Int) + 1).toNat = x + 1 := by omega
    have hx5 : (0 : Int) ≤ (x : Int) + 1 := by omega
    have hx6 : (x : Int) ≤ (x : Int) + 1 := by omega
    have hWd := hW7.next (Below.refl w7.heap.size w7).drew
    clear hW7
    by_cases hce : ec = x + 1
    · subst hce
      go_wp2
      go_region_law (fail)
      have hW8 : EW w base c ao n cap g (x + 1) (l.take x) w7.drew := ⟨hWd.cur, hWd.own.cut (by omega), hWd.gr⟩
      have hlt : (l.take x).length = x := by rw [List.length_take]; omega
      clear hWd
      go_wp2
      exact bodyPost_ret (v := .tuple #[.slice (some ⟨g, 0, none⟩) x (x + 1), .int .i64 (p : Int)]) (by simp [results, Try.results99, go_sem]) rfl ⟨g, x + 1, l.take x, (p : Int), by rw [hlt], by omega, hW8⟩
    · have hce2 : x + 1 < ec := by omega
      go_wp2
      go_region_law (refine step_append_cut ?_ (.tmp 42) (.tmp 46) ?_ w.heap.size g x ec l ?_ hWd.own hxl ⟨g, (x + 1) * 2, none⟩ (ec - (x + 1)) ?_ (fun _ => rfl) ?_; rfl; rfl; (focus (simp [go_sem]; done)); (focus (simp [go_sem]; done)); intro w8 l' hl' hown8 hgrow8)
      all_goals
        have hW8 := hWd.other hcl hgrow8 hown8
        clear hWd hgrow8 hown8
        go_wp2
        exact bodyPost_ret (v := .tuple #[.slice (some ⟨g, 0, none⟩) (l.length - 1) ec, .int .i64 (p : Int)]) (by simp [results, Try.results99, go_sem]) rfl ⟨g, ec, l', (p : Int), by rw [hl'], by omega, hW8⟩
  · go_wp2_with fail
    refine (l1From8_any _ c ao n cap _ hW6.cur).mono ?_
    rintro e w7 ⟨x, rfl, hC7, hg7⟩
    have hW7 := hW6.step hcl hC7 hg7
    clear hC7 hg7 hW6
    go_wp2_with fail
    refine (l1From_any _ c ao n cap _ hW7.cur).mono ?_
    rintro e w8 ⟨y, rfl, hC8, hg8⟩
    have hW8 := hW7.step hcl hC8 hg8
    clear hC8 hg8 hW7
    have hW9 := hW8.next ((Below.refl w8.heap.size w8).alloc (Nat.le_refl _) (.cells #[.int .i64 x, .int .i64 y] 58))
    have hbz := hW8.gr.size
    clear hW8
    go_wp2_with (at_builtin; refine wpList_append_edge rfl _ _ rfl w.heap.size g ec l rfl hW9.own w8.heap.size 1 x y rfl (by simp [go_sem]) (by simp [go_sem]) (by omega) (by simp; omega) ?_; intro g' ec' w10 hown10 hgrow10 hat10)
    have hW10 := hW9.other hcl hgrow10 hown10
    clear hW9 hgrow10 hat10 hown10
    have hlen : (l ++ [(x, y)]).length = l.length + 1 := by simp
    go_wp2
    exact bodyPost_ret (v := .tuple #[.slice (some ⟨g', 0, none⟩) (l.length + 1) ec', .int .i64 (p : Int)]) (by simp [results, Try.results99, go_sem]) rfl ⟨g', ec', l ++ [(x, y)], (p : Int), by rw [hlen], by rw [hlen]; omega, hW10⟩
  · by_cases hl0 : 0 < l.length
    rotate_left
    · have hl0' : ¬ 0 < (l.length : Int) := by omega
      go_wp2
      exact bodyPost_ret (v := .tuple #[.slice (some ⟨g, 0, none⟩) l.length ec, .int .i64 (p : Int)]) (by simp [results, Try.results99, go_sem]) rfl ⟨g, ec, l, (p : Int), rfl, by omega, hW6⟩
    have hl0' : 0 < (l.length : Int) := by omega
    match l, hl0, hl0', hll, hW6 with
    | (a, b) :: t, hl0, hl0', hll, hW6 =>
    obtain ⟨m', hm'⟩ : ∃ m', ((a, b) :: t).length = m' := ⟨_, rfl⟩
    have hE6 := hW6.own.has
    have c0 : w6.cell? ⟨g, 0, none⟩ = some (.int .i64 a) := by
      have := hE6.cell (j := 0) (by simp)
      simpa [er, Lf] using this
    have hWd := hW6.next (Below.refl w6.heap.size w6).drew
    have hWa := (hW6.next ((Below.refl w6.heap.size w6).alloc (Nat.le_refl _) (.cells #[.int .i64 a, .int .i64 99, .int .i64 4611686018427387904] 2))).next (Below.refl _ _).drew
    have hgl := hW6.own.lt
    have hcw := hW6.cur.lt
    clear hW6 hE6
    rw [hm'] at hl0 hl0' hll ⊢
    go_wp2
    go_region_law (first
      | (go_simp; go_at_call 53; refine (l1Below_any base c ao n cap 3 (by omega) (by omega) _ hWa.cur).mono ?_; rintro e w7 ⟨y, rfl, hy, hC7, hg7⟩; have hW7 := hWa.step hcl hC7 hg7; obtain ⟨v, hv⟩ := lit3 ((hg7.block w6.heap.size (by simp) (by simp <;> omega)).trans (Go.Deep.blk_alloc_new w6 (.cells #[.int .i64 a, .int .i64 99, .int .i64 4611686018427387904] 2))) (show y < 3 by omega); have e0 := hW7.own.at0; have e1 := hW7.own.at1; have z1 := hW7.own.has.frozen 1; have hy3 : (y : Int) < 3 := (by omega); have hgl7 := hW7.own.lt; clear hC7 hg7)
      | (go_simp; go_at_call 53; refine (l1Below_any base c ao n cap 3 (by omega) (by omega) _ hWd.cur).mono ?_; rintro e w7 ⟨y, rfl, hy, hC7, hg7⟩; have hW7 := hWd.step hcl hC7 hg7; obtain ⟨v, hv⟩ := lit3 (Go.Deep.blk_alloc_new w7 (.cells #[.int .i64 a, .int .i64 99, .int .i64 4611686018427387904] 2)) (show y < 3 by omega); have e0 := hW7.own.at0; have e1 := hW7.own.at1; have z1 := hW7.own.has.frozen 1; have hy3 : (y : Int) < 3 := (by omega); have hgl7 := hW7.own.lt; clear hC7 hg7))
    all_goals
      have hW8 := hW7.other hcl (gr_setCell w7 g 1 (.int .i64 v)) (hW7.own.put1 v)
      have hln : ((a, v) :: t).length = m' := by rw [← hm']; simp
      have hW9 := hW8.next ((Below.refl _ _).alloc (Nat.le_refl _) (.cells #[.int .i64 a, .int .i64 99, .int .i64 4611686018427387904] 2))
      clear hW7 hWa hWd
      go_wp2
      first
      | exact bodyPost_ret (v := .tuple #[.slice (some ⟨g, 0, none⟩) m' ec, .int .i64 (p : Int)]) (by simp [results, Try.results99, go_sem]) rfl ⟨g, ec, (a, v) :: t, (p : Int), by rw [hln], by rw [hln]; omega, hW8⟩
      | exact bodyPost_ret (v := .tuple #[.slice (some ⟨g, 0, none⟩) m' ec, .int .i64 (p : Int)]) (by simp [results, Try.results99, go_sem]) rfl ⟨g, ec, (a, v) :: t, (p : Int), by rw [hln], by rw [hln]; omega, hW9⟩

end Go.Proofs.Ytdgnlpafmkhdjaa

/-
  What the laws over drawn inputs call: their helpers, and the bytes that came in.
-/
set_option linter.unusedVariables false
set_option linter.unusedSimpArgs false
namespace Go.Proofs.Ytdgnlpafmkhdjaa
open Go.ChangeShapes Go.WideShapes Go.ChangeAt Go.RowKit Go.Deep Go.Joins
attribute [local go_sem ↓] Go.wp_at_zero Go.wp_at_succ

theorem big_any (ao : Option Addr) (n cap : Nat) (hn : n ≤ 9223372036854775807) (w : World) : Calls Try.prog 7 #[.slice ao n cap] w fun e w' => e = .returned (.bool (decide (4096 < n))) ∧ w' = w := by
  by_cases h : 4096 < n
  · have h' : 4096 < (n : Int) := by omega
    go_enter Try.func7, Try.ntmps7
    go_wp2
    go_ret
    exact ⟨ret_bool (by simp [h]), rfl⟩
  · have h' : ¬ 4096 < (n : Int) := by omega
    go_enter Try.func7, Try.ntmps7
    go_wp2
    go_ret
    exact ⟨ret_bool (by simp [h]), rfl⟩

set_option maxHeartbeats 800000 in
theorem likeInts_same (ao ao' : Option Addr) (n cap cap' : Nat) (f : Nat → Int) (hn : n ≤ 1048576) (w : World) (hr : IRow w ao n f) (hr' : IRow w ao' n f) :
    Calls Try.prog 18 #[.slice ao n cap, .slice ao' n cap'] w fun e w' => e = .returned (.bool true) ∧ Below w.heap.size w w' := by
  go_enter Try.func18, Try.ntmps18
  go_wp2
  go_loopw [5] (fun i wr => ∃ k : Nat, k ≤ n ∧ i = .int .i64 k ∧ Below w.heap.size w wr) (fun i _ => n - (intOf i).toNat)
  case atStart => exact ⟨0, Nat.zero_le _, rfl, Below.refl _ _⟩
  case round =>
    obtain ⟨k, hk, rfl, hbel⟩ := hrel
    by_cases hlt : k < n
    rotate_left
    · have hkn : k = n := by omega
      subst hkn
      go_wp2
      go_ret
      exact ⟨rfl, hbel⟩
    obtain ⟨b, o, hao, c0⟩ := (hr.below hbel (Nat.le_refl _)) k hlt
    obtain ⟨b', o', hao', d0⟩ := (hr'.below hbel (Nat.le_refl _)) k hlt
    subst hao
    subst hao'
    have hk1 : (0 : Int) ≤ (k : Int) := by omega
    have hk2 : (k : Int) < (n : Int) := by omega
    go_wp2
    go_quiet (fail)
    go_wp2
    go_roundw
    case rel => exact ⟨k + 1, by omega, by go_num, below_drewN hbel _⟩
    case measure => simp [intOf]; omega

set_option maxRecDepth 100000 in
theorem open_bytes {H : Type} {enc : TypeId × Value → H} {w : World} {base : Nat} {spare : Nat → Bool} {held : Bool} {fuel : Nat} {cs : List Value} {x : DataW H × List MemPlace}
    (h : DataW.trod enc Try.prog w base spare held fuel 22 cs = some x) :
    ∃ (ao : Option Addr) (n cap : Nat), cs = [.slice ao n cap] ∧ n ≤ maxLen ∧ ByRow w w.heap.size ao n := by
  rcases open_slice Try.underlying22 h with ⟨rfl, _⟩ | ⟨a, len, cap, m, n, D, Pl, rfl, hb, hl, hm, hmm, _, hx⟩
  · exact ⟨none, 0, 0, rfl, Nat.zero_le _, fun k hk => by omega⟩
  have hlm : len ≤ m := by rw [hmm]; split <;> omega
  have cells8 : Try.prog.cellsOf 5 = 1 := by kernel_rfl
  have each : ∀ i, i < len → ∃ q : Int, w.cell? (a.add i) = some (.int .u8 q) ∧ (Lit.int .u8 q).wf = true := by
    intro i hi
    obtain ⟨cs', h1, h2⟩ := hx i (by omega)
    rw [cells8] at h1
    obtain ⟨_, hlen, hcell⟩ := World.cells?_some h1
    match cs', hlen with
    | [v0], _ =>
      obtain ⟨q0, r0, _, f0⟩ := DataW.trod_int Try.underlying5 h2
      have e0 := hcell 0 (by omega)
      rw [add_add] at e0
      simp at r0
      subst r0
      exact ⟨q0, by simpa using e0, f0⟩
  refine ⟨some a, len, cap, rfl, by omega, fun k hk => ?_⟩
  obtain ⟨q, hq, hwf⟩ := each k hk
  obtain ⟨b, o, spot⟩ := a
  have hspot : spot = none := by
    obtain ⟨_, hq0, _⟩ := each 0 (by omega)
    have := World.cell?_spot hq0
    simpa [Addr.add] using this
  subst hspot
  rw [Addr.add_mid] at hq
  have h8 : 0 ≤ q ∧ q ≤ 255 := by
    have h1 : IntKind.min .u8 = 0 := by decide
    have h2 : IntKind.max .u8 = 255 := by decide
    simp only [Lit.wf, h1, h2, Bool.and_eq_true, decide_eq_true_eq] at hwf
    exact hwf
  exact ⟨b, o, q, rfl, lt_of_cell hq, hq, h8.1, h8.2⟩

theorem ByRow.up {w W : World} {ao : Option Addr} {n : Nat} (h : ByRow w w.heap.size ao n) (hb : Below w.heap.size w W) : ByRow W W.heap.size ao n := fun k hk => by
  obtain ⟨b, o, v, e, hlt, hc, hv⟩ := (h.below hb (Nat.le_refl _)) k hk
  exact ⟨b, o, v, e, Nat.lt_of_lt_of_le hlt hb.size, hc, hv⟩
theorem ans_row {W w' : World} {ao : Option Addr} {m : Nat} {D : Nat → Int} (h : 0 < m → ∃ g, ao = some ⟨g, 0, none⟩ ∧ W.heap.size ≤ g ∧ IHas w' g m D) : IRow w' ao m D := fun k hk => by
  obtain ⟨g, e, _, hI⟩ := h (by omega)
  subst e
  exact hI.row k hk

end Go.Proofs.Ytdgnlpafmkhdjaa

/-
  The document's draws of edges and of orders, as the laws of the fill call them; and their comparison of edges.
-/
set_option linter.unusedVariables false
set_option linter.unusedSimpArgs false
namespace Go.Proofs.Ytdgnlpafmkhdjaa
open Go.ChangeShapes Go.WideShapes Go.ChangeAt Go.RowKit Go.Deep Go.Joins
attribute [local go_sem ↓] Go.wp_at_zero Go.wp_at_succ

set_option maxHeartbeats 1000000 in
theorem drawFill_any (ao : Option Addr) (n cap : Nat) (hn : n ≤ 4096) (w : World) (hr : ByRow w w.heap.size ao n) :
    Calls Try.prog 33 #[.slice ao n cap] w fun e w' => ∃ (p : Int) (go : Option Addr) (k gc : Nat) (po : Option Addr) (m pc : Nat) (P : Nat → Int), e = .returned (.tuple #[.agg #[.int .i64 p, .slice go k gc], .slice po m pc]) ∧ k ≤ 200 ∧ m ≤ 24 ∧ (∃ F T G, Row w' go k F T G) ∧ IRow w' po m P ∧ Below w.heap.size w w' := by
  have hal0 := (Below.refl w.heap.size w).alloc (Nat.le_refl _) (.cells #[.int .i64 0, .slice none 0 0] 26)
  go_enter Try.func33, Try.ntmps33
  go_wp2_with fail
  refine (drawOrderOk_any ao n cap hn _ (hr.up hal0)).mono ?_
  rintro e w3 ⟨p, go, k, gc, po, m, pc, P, rfl, hk, hm, ⟨F, T, G, hrow, hblk⟩, ⟨hP, hpb⟩, hb3⟩
  have hrb3 := (gr_new w 0 (.slice none 0 0)).below hb3 (by simp)
  have hbel3 := below_next hal0 (Nat.le_refl _) hb3
  have r0 : w3.cell? ⟨w.heap.size, 0, none⟩ = some (.int .i64 0) := hrb3.cell (j := 0) (by omega)
  have r1 : w3.cell? ⟨w.heap.size, 1, none⟩ = some (.slice none 0 0) := hrb3.cell (j := 1) (by omega)
  have y0 := hrb3.frozen 0
  have y1 := hrb3.frozen 1
  obtain ⟨q0, q1, q2⟩ := res_cells hrb3 p (.slice go k gc)
  have h1 := gr_setCell w3 w.heap.size 0 (.int .i64 p)
  have h2 := gr_setCell (w3.setCell ⟨w.heap.size, 0, none⟩ (.int .i64 p)) w.heap.size 1 (.slice go k gc)
  have o1 : ∃ F T G, Row ((w3.setCell ⟨w.heap.size, 0, none⟩ (.int .i64 p)).setCell ⟨w.heap.size, 1, none⟩ (.slice go k gc)) go k F T G :=
    ⟨F, T, G, (hrow.otherB h1 (fun a e h => by have := hblk a e h; simp at this ⊢; omega)).otherB h2 (fun a e h => by have := hblk a e h; simp at this ⊢; omega)⟩
  have hP2 : IRow ((w3.setCell ⟨w.heap.size, 0, none⟩ (.int .i64 p)).setCell ⟨w.heap.size, 1, none⟩ (.slice go k gc)) po m P := (hP.other h1 (fun a e h => by have := hpb a e h; simp at this ⊢; omega)).other h2 (fun a e h => by have := hpb a e h; simp at this ⊢; omega)
  have o2 : Below w.heap.size w ((w3.setCell ⟨w.heap.size, 0, none⟩ (.int .i64 p)).setCell ⟨w.heap.size, 1, none⟩ (.slice go k gc)) := (hbel3.setCell (p := ⟨w.heap.size, 0, none⟩) (Nat.le_refl _) _).setCell (p := ⟨w.heap.size, 1, none⟩) (Nat.le_refl _) _
  clear hrb3 hal0 hb3 h1 h2
  go_wp2
  exact bodyPost_ret (v := .tuple #[.agg #[.int .i64 p, .slice go k gc], .slice po m pc]) (by simp [results, Try.results33, go_sem, q0, q1, q2]) rfl ⟨p, go, k, gc, po, m, pc, P, rfl, hk, hm, o1, hP2, o2⟩

end Go.Proofs.Ytdgnlpafmkhdjaa

/-
  The document's draws of edges, as the laws of the fill call them; and their comparison of edges.
-/
set_option linter.unusedVariables false
set_option linter.unusedSimpArgs false
namespace Go.Proofs.Ytdgnlpafmkhdjaa
open Go.ChangeShapes Go.WideShapes Go.ChangeAt Go.RowKit Go.Deep Go.Joins
attribute [local go_sem ↓] Go.wp_at_zero Go.wp_at_succ

theorem drawParents_any (ao : Option Addr) (n cap : Nat) (hn : n ≤ 4096) (w : World) (hr : ByRow w w.heap.size ao n) :
    Calls Try.prog 78 #[.slice ao n cap] w fun e w' => ∃ (g ec : Nat) (l : List (Int × Int)) (x : Int), e = .returned (.tuple #[.slice (some ⟨g, 0, none⟩) l.length ec, .int .i64 x]) ∧ l.length ≤ 300 ∧ l.length ≤ ec ∧ ERow w' (some ⟨g, 0, none⟩) l.length (Lf l) (Hf l) ∧ Below w.heap.size w w' := by
  go_enter Try.func78, Try.ntmps78
  go_wp2_with fail
  refine (l1New_any ao n cap hn _ hr).mono ?_
  rintro e w1 ⟨c, rfl, hC1, hb1⟩
  have hcg := hC1.ge
  go_wp2_with fail
  refine (l4Draw_any _ c ao n cap _ hC1).mono ?_
  rintro e w2 ⟨g, ec, l, x, rfl, hl, hE⟩
  have hb2 : Below w.heap.size w w2 := hb1.trans (gr_below hE.gr hcg hb1.size)
  have hrow := hE.own.has.row
  have hroom := hE.own.room
  clear hE hC1
  go_wp2
  exact bodyPost_ret (v := .tuple #[.slice (some ⟨g, 0, none⟩) l.length ec, .int .i64 x]) (by simp [results, Try.results78, go_sem]) rfl ⟨g, ec, l, x, rfl, hl, hroom, hrow, hb2⟩
theorem drawChordal_any (ao : Option Addr) (n cap : Nat) (hn : n ≤ 4096) (w : World) (hr : ByRow w w.heap.size ao n) :
    Calls Try.prog 37 #[.slice ao n cap] w fun e w' => ∃ (g ec : Nat) (l : List (Int × Int)) (x : Int), e = .returned (.tuple #[.slice (some ⟨g, 0, none⟩) l.length ec, .int .i64 x]) ∧ l.length ≤ 300 ∧ l.length ≤ ec ∧ ERow w' (some ⟨g, 0, none⟩) l.length (Lf l) (Hf l) ∧ Below w.heap.size w w' := by
  go_enter Try.func37, Try.ntmps37
  go_wp2_with fail
  refine (drawParents_any ao n cap hn _ hr).mono ?_
  rintro e w2 ⟨g, ec, l, x, rfl, hl, hroom, hrow, hb2⟩
  go_wp2
  exact bodyPost_ret (v := .tuple #[.slice (some ⟨g, 0, none⟩) l.length ec, .int .i64 x]) (by simp [results, Try.results37, go_sem]) rfl ⟨g, ec, l, x, rfl, hl, hroom, hrow, hb2⟩
set_option maxHeartbeats 800000 in
theorem likeEdges_same (ao ao' : Option Addr) (n cap cap' : Nat) (L H : Nat → Int) (hn : n ≤ 1048576) (w : World) (hr : ERow w ao n L H) (hr' : ERow w ao' n L H) :
    Calls Try.prog 35 #[.slice ao n cap, .slice ao' n cap'] w fun e w' => e = .returned (.bool true) ∧ Below w.heap.size w w' := by
  go_enter Try.func35, Try.ntmps35
  go_wp2
  go_loopw [5] (fun i wr => ∃ k : Nat, k ≤ n ∧ i = .int .i64 k ∧ Below w.heap.size w wr) (fun i _ => n - (intOf i).toNat)
  case atStart => exact ⟨0, Nat.zero_le _, rfl, Below.refl _ _⟩
  case round =>
    obtain ⟨k, hk, rfl, hbel⟩ := hrel
    by_cases hlt : k < n
    rotate_left
    · have hkn : k = n := by omega
      subst hkn
      go_wp2
      go_ret
      exact ⟨rfl, hbel⟩
    obtain ⟨b, o, hao, c0, c1⟩ := (hr.below hbel (Nat.le_refl _)) k hlt
    obtain ⟨b', o', hao', d0, d1⟩ := (hr'.below hbel (Nat.le_refl _)) k hlt
    subst hao
    subst hao'
    have hk1 : (0 : Int) ≤ (k : Int) := by omega
    have hk2 : (k : Int) < (n : Int) := by omega
    go_wp2
    go_quiet (fail)
    go_wp2
    go_roundw
    case rel => exact ⟨k + 1, by omega, by go_num, below_drewN hbel _⟩
    case measure => simp [intOf]; omega

end Go.Proofs.Ytdgnlpafmkhdjaa

/-
  Which edges are as told: the document's and the program's look, each held against one plain function of the edges.
-/
set_option linter.unusedVariables false
set_option linter.unusedSimpArgs false
namespace Go.Proofs.Ytdgnlpafmkhdjaa
open Go.RowKit
attribute [local go_sem ↓] Go.wp_at_zero Go.wp_at_succ

def edgeB (l h p : Int) : Bool := inB l 0 (p - 1) && inB h (l + 1) (p - 1)
def edB (p : Int) (L H : Nat → Int) : Nat → Bool
  | 0 => true
  | k + 1 => edB p L H k && (edgeB (L k) (H k) p && (k == 0 || upB (L (k - 1)) (H (k - 1)) (L k) (H k)))
def edgesB (p : Int) (n : Nat) (L H : Nat → Int) : Bool := inB p 1 24 && edB p L H n

theorem edB_no {p : Int} {L H : Nat → Int} {k : Nat} (h : edgeB (L k) (H k) p = false) : ∀ n, k < n → edB p L H n = false
  | 0, hk => by omega
  | n + 1, hk => by
    by_cases e : k = n
    · subst e; simp [edB, h]
    · simp [edB, edB_no h n (by omega)]
theorem edB_down {p : Int} {L H : Nat → Int} {k : Nat} (h0 : 0 < k) (h : upB (L (k - 1)) (H (k - 1)) (L k) (H k) = false) : ∀ n, k < n → edB p L H n = false
  | 0, hk => by omega
  | n + 1, hk => by
    by_cases e : k = n
    · subst e
      have : (k == 0) = false := by simp; omega
      simp [edB, h, this]
    · simp [edB, edB_down h0 h n (by omega)]
theorem edB_step {p : Int} {L H : Nat → Int} {k : Nat} (h : edB p L H k = true) (ha : edgeB (L k) (H k) p = true) (hu : k = 0 ∨ upB (L (k - 1)) (H (k - 1)) (L k) (H k) = true) : edB p L H (k + 1) = true := by
  rcases hu with hu | hu
  · subst hu; simp [edB, ha]
  · simp [edB, h, ha, hu]
theorem edB_at {p : Int} {L H : Nat → Int} : ∀ n, edB p L H n = true → ∀ k, k < n → edgeB (L k) (H k) p = true
  | 0, _, k, hk => by omega
  | n + 1, h, k, hk => by
    simp [edB] at h
    by_cases e : k = n
    · subst e; exact h.2.1
    · exact edB_at n h.1 k (by omega)
theorem edgeB_in {l h p : Int} (H : edgeB l h p = true) : 0 ≤ l ∧ l < h ∧ h < p := by
  simp [edgeB, inB] at H
  omega
theorem edgeB_false1 {l h p : Int} (H : inB l 0 (p - 1) = false) : edgeB l h p = false := by simp [edgeB, H]
theorem edgeB_false2 {l h p : Int} (H : inB h (l + 1) (p - 1) = false) : edgeB l h p = false := by simp [edgeB, H]
theorem edgeB_true {l h p : Int} (h1 : inB l 0 (p - 1) = true) (h2 : inB h (l + 1) (p - 1) = true) : edgeB l h p = true := by simp [edgeB, h1, h2]
theorem inB_in {x lo hi : Int} (h : inB x lo hi = true) : lo ≤ x ∧ x ≤ hi := by simpa [inB] using h

set_option maxHeartbeats 800000 in
theorem edgeOk_any (l h p : Int) (w : World) :
    Calls Try.prog 100 #[.agg #[.int .i64 l, .int .i64 h], .int .i64 p] w fun e w' => e = .returned (.bool (edgeB l h p)) ∧ Below w.heap.size w w' := by
  have e : edgeB l h p = (decide (0 ≤ l) && (decide (l < h) && decide (h < p))) := by
    unfold edgeB inB
    rw [Bool.eq_iff_iff]
    simp
    omega
  rw [e]
  clear e
  by_cases h1 : 0 ≤ l
  · by_cases h2 : l < h
    · by_cases h3 : h < p <;>
      · go_enter Try.func100, Try.ntmps100
        go_wp2
        go_ret
        exact ⟨by simp [h1, h2, h3], (Below.refl _ _).alloc (Nat.le_refl _) _⟩
    · go_enter Try.func100, Try.ntmps100
      go_wp2
      go_ret
      exact ⟨by simp [h2]; omega, (Below.refl _ _).alloc (Nat.le_refl _) _⟩
  · go_enter Try.func100, Try.ntmps100
    go_wp2
    go_ret
    exact ⟨by simp [h1]; omega, (Below.refl _ _).alloc (Nat.le_refl _) _⟩

set_option maxHeartbeats 1600000 in
theorem l4Edges_any (p : Int) (ao : Option Addr) (n cap : Nat) (L H : Nat → Int) (hn : n ≤ 1048576) (w : World) (hr : ERow w ao n L H) :
    Calls Try.prog 81 #[.slice ao n cap, .int .i64 p] w fun e w' => e = .returned (.bool (edgesB p n L H)) ∧ Below w.heap.size w w' := by
  by_cases h1 : inB p 1 24 = true
  rotate_left
  · have h1 : inB p 1 24 = false := by simpa using h1
    go_enter Try.func81, Try.ntmps81
    go_wp2_with (go_at_call 50; refine (l1In_any _ _ _ _).mono ?_; rintro e w1 ⟨rfl, rfl⟩)
    go_ret
    exact ⟨by simp [edgesB, h1], Below.refl _ _⟩
  have hp : 1 ≤ p ∧ p ≤ 24 := by simpa [inB] using h1
  obtain ⟨hp1, hp2⟩ := hp
  go_enter Try.func81, Try.ntmps81
  go_wp2_with (go_at_call 50; refine (l1In_any _ _ _ _).mono ?_; rintro e w1 ⟨rfl, hq⟩; have hq' := hq.symm; subst hq'; clear hq)
  go_loopw [5] (fun i wr => ∃ k : Nat, k ≤ n ∧ i = .int .i64 k ∧ edB p L H k = true ∧ Below w.heap.size w wr) (fun i _ => n - (intOf i).toNat)
  case atStart => exact ⟨0, Nat.zero_le _, rfl, rfl, Below.refl _ _⟩
  case round =>
    obtain ⟨k, hk, rfl, hok, hbel⟩ := hrel
    have HOK : Hid (edB p L H k = true) := hok
    clear hok
    by_cases hlt : k < n
    rotate_left
    · have hkn : k = n := by omega
      subst hkn
      go_wp2
      go_ret
      exact ⟨ret_bool (by simp [edgesB, h1, HOK.out]), hbel⟩
    obtain ⟨b, o, hao, c0, c1⟩ := (hr.below hbel (Nat.le_refl _)) k hlt
    subst hao
    have hsz := hbel.size
    rcases Bool.eq_false_or_eq_true (inB (L k) 0 (p - 1)) with ha | ha
    rotate_left
    · go_wp2_with (go_at_call 50; refine (l1In_any _ _ _ _).mono ?_; rintro e w1 ⟨rfl, rfl⟩)
      go_ret
      exact ⟨ret_bool (by simp [edgesB, h1, edB_no (edgeB_false1 ha) n hlt]), hbel.alloc (by omega) _⟩
    have hl := inB_in ha
    rcases Bool.eq_false_or_eq_true (inB (H k) (L k + 1) (p - 1)) with hb | hb
    rotate_left
    · go_wp2_with (go_at_call 50; refine (l1In_any _ _ _ _).mono ?_; rintro e w1 ⟨rfl, rfl⟩)
      go_ret
      exact ⟨ret_bool (by simp [edgesB, h1, edB_no (edgeB_false2 hb) n hlt]), hbel.alloc (by omega) _⟩
    have HE : Hid (edgeB (L k) (H k) p = true) := edgeB_true ha hb
    by_cases h0 : 0 < k
    rotate_left
    · go_wp2_with (go_at_call 50; refine (l1In_any _ _ _ _).mono ?_; rintro e w1 ⟨rfl, rfl⟩)
      go_roundw
      case rel => exact ⟨k + 1, by omega, by go_num, edB_step HOK.out HE.out (Or.inl (by omega)), hbel.alloc (by omega) _⟩
      case measure => simp [intOf]; omega
    have hbw : b < wr.heap.size := lt_of_cell c0
    obtain ⟨b', o', hao', d0, d1⟩ := (hr.below hbel (Nat.le_refl _)) (k - 1) (by omega)
    simp only [Option.some.injEq, Addr.mk.injEq, and_true] at hao'
    obtain ⟨rfl, rfl⟩ := hao'
    rcases Int.lt_trichotomy (L (k - 1)) (L k) with hF | hF | hF
    · go_wp2_with (go_at_call 50; refine (l1In_any _ _ _ _).mono ?_; rintro e w1 ⟨rfl, rfl⟩)
      go_roundw
      case rel => exact ⟨k + 1, by omega, by go_num, edB_step HOK.out HE.out (Or.inr (upB_yes1 hF)), (hbel.alloc (by omega) _).alloc (by simp; omega) _⟩
      case measure => simp [intOf]; omega
    · have hF1 : L (k - 1) ≤ L k := by omega
      have hF2 : L k ≤ L (k - 1) := by omega
      clear hF
      by_cases hT : H k ≤ H (k - 1)
      · go_wp2_with (go_at_call 50; refine (l1In_any _ _ _ _).mono ?_; rintro e w1 ⟨rfl, rfl⟩)
        go_ret
        exact ⟨ret_bool (by simp [edgesB, h1, edB_down h0 (upB_no2 hF1 hF2 hT) n hlt]), (hbel.alloc (by omega) _).alloc (by simp; omega) _⟩
      · go_wp2_with (go_at_call 50; refine (l1In_any _ _ _ _).mono ?_; rintro e w1 ⟨rfl, rfl⟩)
        go_roundw
        case rel => exact ⟨k + 1, by omega, by go_num, edB_step HOK.out HE.out (Or.inr (upB_yes2 hF1 hF2 (by omega))), (hbel.alloc (by omega) _).alloc (by simp; omega) _⟩
        case measure => simp [intOf]; omega
    · go_wp2_with (go_at_call 50; refine (l1In_any _ _ _ _).mono ?_; rintro e w1 ⟨rfl, rfl⟩)
      go_ret
      exact ⟨ret_bool (by simp [edgesB, h1, edB_down h0 (upB_no1 hF) n hlt]), (hbel.alloc (by omega) _).alloc (by simp; omega) _⟩

end Go.Proofs.Ytdgnlpafmkhdjaa

/-
  Which of two edges goes first: the program's comparison answers a number below nought just where the first one is below the second. No condition.
-/
set_option linter.unusedVariables false
set_option linter.unusedSimpArgs false
namespace Go.Proofs.Ytdgnlpafmkhdjaa
open Go.RowKit
attribute [local go_sem ↓] Go.wp_at_zero Go.wp_at_succ

/-- Which one goes first. -/
def cmpI (x y : Int) : Int := if x < y then -1 else if y < x then 1 else 0
def orI (x y : Int) : Int := if x = 0 then y else x
def cmpE (l h l' h' : Int) : Int := orI (cmpI l l') (cmpI h h')
theorem cmpE_up (l h l' h' : Int) : cmpE l h l' h' < 0 ↔ upB l h l' h' = true := by
  unfold cmpE orI cmpI upB
  by_cases h1 : l < l'
  · simp [h1]
  by_cases h2 : l' < l
  · have : l ≠ l' := by omega
    simp [h1, h2, this]
  have : l = l' := by omega
  subst this
  by_cases h3 : h < h'
  · simp [h3]
  by_cases h4 : h' < h <;> simp [h3, h4]
theorem cmpE_in (l h l' h' : Int) : -1 ≤ cmpE l h l' h' ∧ cmpE l h l' h' ≤ 1 := by
  unfold cmpE orI cmpI
  by_cases h1 : l < l' <;> by_cases h2 : l' < l <;> by_cases h3 : h < h' <;> by_cases h4 : h' < h <;> simp [h1, h2, h3, h4]

theorem isNaN_any (x : Int) (w : World) : Calls Try.prog 101 #[.int .i64 x] w fun e w' => e = .returned (.bool false) ∧ w' = w := by
  go_enter Try.func101, Try.ntmps101
  go_wp2
  go_ret
  exact ⟨by simp, rfl⟩

theorem compare_any (x y : Int) (w : World) : Calls Try.prog 98 #[.int .i64 x, .int .i64 y] w fun e w' => e = .returned (.int .i64 (cmpI x y)) ∧ w' = w := by
  unfold cmpI
  by_cases h1 : x < y
  · go_enter Try.func98, Try.ntmps98
    go_wp2_with (go_at_call 101; refine (isNaN_any _ _).mono ?_; rintro e w1 ⟨rfl, rfl⟩)
    go_ret
    exact ⟨by simp [h1], rfl⟩
  by_cases h2 : y < x <;>
  · go_enter Try.func98, Try.ntmps98
    go_wp2_with (go_at_call 101; refine (isNaN_any _ _).mono ?_; rintro e w1 ⟨rfl, rfl⟩)
    go_ret
    exact ⟨by simp [h1, h2], rfl⟩

theorem or_two (b o c : Nat) (x y : Int) (w : World) (h0 : w.cell? ⟨b, o, none⟩ = some (.int .i64 x)) (h1 : w.cell? ⟨b, o + 1, none⟩ = some (.int .i64 y)) :
    Calls Try.prog 97 #[.slice (some ⟨b, o, none⟩) 2 c] w fun e w' => e = .returned (.int .i64 (orI x y)) ∧ w' = w := by
  unfold orI
  go_enter Try.func97, Try.ntmps97
  go_wp2
  go_loop [8] (fun i => ∃ k : Nat, k ≤ 2 ∧ i = .int .i64 k ∧ (1 ≤ k → x = 0) ∧ (2 ≤ k → y = 0)) (fun i => 2 - (intOf i).toNat)
  case atStart => exact ⟨0, by omega, rfl, fun h => by omega, fun h => by omega⟩
  case round =>
    obtain ⟨k, hk, rfl, hx, hy⟩ := hrel
    have h3 : k = 0 ∨ k = 1 ∨ k = 2 := by omega
    rcases h3 with rfl | rfl | rfl
    · clear hx hy
      by_cases e : x = 0
      · go_wp2
        go_round
        case rel => exact ⟨1, by omega, by go_num, fun _ => e, fun h => by omega⟩
        case measure => simp [intOf]
      · go_wp2
        go_ret
        exact ⟨by simp [e], rfl⟩
    · have hx := hx (by omega)
      subst hx
      clear hy
      by_cases e : y = 0
      · go_wp2
        go_round
        case rel => exact ⟨2, by omega, by go_num, by simp, fun h => e⟩
        case measure => simp [intOf]
      · go_wp2
        go_ret
        exact ⟨by simp, rfl⟩
    · have hx := hx (by omega)
      have hy := hy (by omega)
      subst hx hy
      go_wp2
      go_ret
      exact ⟨by simp, rfl⟩

theorem compareEdges_any (l h l' h' : Int) (w : World) :
    Calls Try.prog 76 #[.agg #[.int .i64 l, .int .i64 h], .agg #[.int .i64 l', .int .i64 h']] w fun e w' => e = .returned (.int .i64 (cmpE l h l' h')) ∧ Below w.heap.size w w' := by
  go_enter Try.func76, Try.ntmps76
  go_wp2_with fail
  have hA : Below w.heap.size w ((w.alloc (.cells #[.int .i64 l, .int .i64 h] 58)).alloc (.cells #[.int .i64 l', .int .i64 h'] 58)) := ((Below.refl _ _).alloc (Nat.le_refl _) _).alloc (by simp) _
  go_region_held3 (fun W => W.cell? ⟨w.heap.size, 0, none⟩ = some (.int .i64 l) ∧ W.cell? ⟨w.heap.size, 1, none⟩ = some (.int .i64 h) ∧ W.cell? ⟨w.heap.size + 1, 0, none⟩ = some (.int .i64 l') ∧ W.cell? ⟨w.heap.size + 1, 1, none⟩ = some (.int .i64 h'))
    (first | go_keep)
    (first | (go_at_call 98; refine (compare_any _ _ _).mono ?_; rintro e w1 ⟨rfl, rfl⟩) | (go_at_call 97; refine (or_two _ _ _ _ _ _ (by simp [go_sem]; rfl) (by simp [go_sem]; rfl)).mono ?_; rintro e w1 ⟨rfl, rfl⟩))
  go_wp2
  go_ret
  exact ⟨rfl, (hA.alloc (by simp; omega) _).drew⟩

end Go.Proofs.Ytdgnlpafmkhdjaa

/-
  The program's look whether edges are as told answers 'edgesB', for every list of at most 2^20 edges.
-/
set_option linter.unusedVariables false
set_option linter.unusedSimpArgs false
namespace Go.Proofs.Ytdgnlpafmkhdjaa
open Go.RowKit
attribute [local go_sem ↓] Go.wp_at_zero Go.wp_at_succ

set_option maxHeartbeats 1600000 in
theorem edgesOk_any (p : Int) (ao : Option Addr) (n cap : Nat) (L H : Nat → Int) (hn : n ≤ 1048576) (w : World) (hr : ERow w ao n L H) :
    Calls Try.prog 79 #[.slice ao n cap, .int .i64 p] w fun e w' => e = .returned (.bool (edgesB p n L H)) ∧ Below w.heap.size w w' := by
  by_cases h1 : p < 1
  · have h' : inB p 1 24 = false := by simp [inB]; omega
    go_enter Try.func79, Try.ntmps79
    go_wp2
    go_ret
    exact ⟨ret_bool (by simp [edgesB, h']), Below.refl _ _⟩
  by_cases h2 : 24 < p
  · have h' : inB p 1 24 = false := by simp [inB]; omega
    go_enter Try.func79, Try.ntmps79
    go_wp2
    go_ret
    exact ⟨ret_bool (by simp [edgesB, h']), Below.refl _ _⟩
  have hin : Hid (inB p 1 24 = true) := by show inB p 1 24 = true; simp [inB]; omega
  go_enter Try.func79, Try.ntmps79
  go_wp2
  go_loopw [15] (fun i wr => ∃ k : Nat, k ≤ n ∧ i = .int .i64 k ∧ edB p L H k = true ∧ Below w.heap.size w wr) (fun i _ => n - (intOf i).toNat)
  case atStart => exact ⟨0, Nat.zero_le _, rfl, rfl, Below.refl _ _⟩
  case round =>
    obtain ⟨k, hk, rfl, hok, hbel⟩ := hrel
    have HOK : Hid (edB p L H k = true) := hok
    clear hok
    by_cases hlt : k < n
    rotate_left
    · have hkn : k = n := by omega
      subst hkn
      go_wp2
      go_ret
      exact ⟨ret_bool (by simp [edgesB, hin.out, HOK.out]), hbel⟩
    obtain ⟨b, o, hao, c0, c1⟩ := (hr.below hbel (Nat.le_refl _)) k hlt
    subst hao
    have hsz := hbel.size
    rcases Bool.eq_false_or_eq_true (edgeB (L k) (H k) p) with ha | ha
    rotate_left
    · go_wp2_with (go_at_call 100; refine (edgeOk_any _ _ _ _).mono ?_; rintro e w1 ⟨rfl, hb1⟩)
      go_ret
      exact ⟨ret_bool (by simp [edgesB, edB_no ha n hlt]), below_next (hbel.alloc (by omega) _) (Nat.le_refl _) hb1⟩
    by_cases h0 : 0 < k
    rotate_left
    · have hd : decide (0 < (k : Int)) = false := by simp; omega
      go_wp2_with (go_at_call 100; refine (edgeOk_any _ _ _ _).mono ?_; rintro e w1 ⟨rfl, hb1⟩)
      have hA := below_next (hbel.alloc (by omega) _) (Nat.le_refl _) hb1
      go_quiet (fail)
      go_wp2
      go_roundw
      case rel => exact ⟨k + 1, by omega, by go_num, edB_step HOK.out ha (Or.inl (by omega)), below_drewN hA _⟩
      case measure => simp [intOf]; omega
    have hbw : b < wr.heap.size := lt_of_cell c0
    obtain ⟨b', o', hao', d0, d1⟩ := (hr.below hbel (Nat.le_refl _)) (k - 1) (by omega)
    simp only [Option.some.injEq, Addr.mk.injEq, and_true] at hao'
    obtain ⟨rfl, rfl⟩ := hao'
    have hk1 : (0 : Int) ≤ (k : Int) - 1 := by omega
    have hk2 : (k : Int) - 1 < (n : Int) := by omega
    have hk3 : IntKind.i64.wrap ((k : Int) - 1) = (k : Int) - 1 := by rw [IntKind.wrap_i64]; omega
    have hk4 : ((k : Int) - 1).toNat = k - 1 := by omega
    have hk5 : (1 : Int) ≤ (k : Int) := by omega
    have hk6 : (k : Int) ≤ (n : Int) := by omega
    have hk7 : 1 ≤ k := by omega
    have hcu := cmpE_up (L (k - 1)) (H (k - 1)) (L k) (H k)
    rcases Bool.eq_false_or_eq_true (upB (L (k - 1)) (H (k - 1)) (L k) (H k)) with hu | hu
    · have hge : ¬ 0 ≤ cmpE (L (k - 1)) (H (k - 1)) (L k) (H k) := by have := hcu.2 hu; omega
      clear hcu
      go_wp2_with (go_at_call 100; refine (edgeOk_any _ _ _ _).mono ?_; rintro e w1 ⟨rfl, hb1⟩)
      have hbw1 := unbox hb1 (by simp)
      have hA := (hbel.alloc (by omega) _).trans (hb1.mono (by simp; omega))
      have s1 := keep_cell hbw1 (Nat.le_refl _) d0
      have s2 := keep_cell hbw1 (Nat.le_refl _) d1
      have s4 := keep_cell hb1 (Nat.le_refl _) (b := wr.heap.size) (o := 0) (by simp [go_sem]; rfl)
      have s5 := keep_cell hb1 (Nat.le_refl _) (b := wr.heap.size) (o := 1) (by simp [go_sem]; rfl)
      go_region_held3 (fun w' => w'.cell? ⟨b, o + (k - 1) * 2, none⟩ = some (.int .i64 (L (k - 1))) ∧ w'.cell? ⟨b, o + (k - 1) * 2 + 1, none⟩ = some (.int .i64 (H (k - 1))) ∧ w'.cell? ⟨wr.heap.size, 0, none⟩ = some (.int .i64 (L k)) ∧ w'.cell? ⟨wr.heap.size, 1, none⟩ = some (.int .i64 (H k)))
        (first | (go_split_ands; refine ⟨?_, ?_, ?_, ?_⟩ <;> exact keep_cell hb2 (Nat.le_refl _) (by assumption)) | go_keep)
        (first | (go_at_call 76; refine (compareEdges_any _ _ _ _ _).mono ?_; rintro e w2 ⟨rfl, hb2⟩; (first | have hA := below_next hA (by simp) hb2 | have hA := below_next hA.drew (by simp) hb2)))
      go_wp2
      go_roundw
      case rel => exact ⟨k + 1, by omega, by go_num, edB_step HOK.out ha (Or.inr hu), hA⟩
      case measure => simp [intOf]; omega
    · have hge : 0 ≤ cmpE (L (k - 1)) (H (k - 1)) (L k) (H k) := by
        by_cases h : cmpE (L (k - 1)) (H (k - 1)) (L k) (H k) < 0
        · rw [hcu.1 h] at hu; cases hu
        · omega
      clear hcu
      go_wp2_with (go_at_call 100; refine (edgeOk_any _ _ _ _).mono ?_; rintro e w1 ⟨rfl, hb1⟩)
      have hbw1 := unbox hb1 (by simp)
      have hA := (hbel.alloc (by omega) _).trans (hb1.mono (by simp; omega))
      have s1 := keep_cell hbw1 (Nat.le_refl _) d0
      have s2 := keep_cell hbw1 (Nat.le_refl _) d1
      have s4 := keep_cell hb1 (Nat.le_refl _) (b := wr.heap.size) (o := 0) (by simp [go_sem]; rfl)
      have s5 := keep_cell hb1 (Nat.le_refl _) (b := wr.heap.size) (o := 1) (by simp [go_sem]; rfl)
      go_region_held3 (fun w' => w'.cell? ⟨b, o + (k - 1) * 2, none⟩ = some (.int .i64 (L (k - 1))) ∧ w'.cell? ⟨b, o + (k - 1) * 2 + 1, none⟩ = some (.int .i64 (H (k - 1))) ∧ w'.cell? ⟨wr.heap.size, 0, none⟩ = some (.int .i64 (L k)) ∧ w'.cell? ⟨wr.heap.size, 1, none⟩ = some (.int .i64 (H k)))
        (first | (go_split_ands; refine ⟨?_, ?_, ?_, ?_⟩ <;> exact keep_cell hb2 (Nat.le_refl _) (by assumption)) | go_keep)
        (first | (go_at_call 76; refine (compareEdges_any _ _ _ _ _).mono ?_; rintro e w2 ⟨rfl, hb2⟩; (first | have hA := below_next hA (by simp) hb2 | have hA := below_next hA.drew (by simp) hb2)))
      go_wp2
      go_ret
      exact ⟨ret_bool (by simp [edgesB, edB_down h0 hu n hlt]), hA⟩

end Go.Proofs.Ytdgnlpafmkhdjaa

/-
  Parents: the document's and the program's. For every list of at most 2^20 edges.
-/
set_option linter.unusedVariables false
set_option linter.unusedSimpArgs false
namespace Go.Proofs.Ytdgnlpafmkhdjaa
open Go.RowKit
attribute [local go_sem ↓] Go.wp_at_zero Go.wp_at_succ

/-- What the document has found behind d edges, going from the last one. -/
def sp (L H : Nat → Int) (n : Nat) : Nat → Nat → Int
  | 0, _ => -1
  | d + 1, r => if L (n - 1 - d) = (r : Int) then H (n - 1 - d) else sp L H n d r
/-- What the program has found behind k edges, going from the first one. -/
def pr (L H : Nat → Int) : Nat → Nat → Int
  | 0, _ => -1
  | k + 1, r => if L k = (r : Int) ∧ pr L H k r < 0 then H k else pr L H k r
theorem pr_ge {L H : Nat → Int} {n : Nat} (h : ∀ k, k < n → 0 ≤ H k) : ∀ k, k ≤ n → ∀ r, pr L H k r < 0 → pr L H k r = -1
  | 0, _, r, _ => rfl
  | k + 1, hk, r, h1 => by
    unfold pr at h1 ⊢
    have := h k (by omega)
    split
    · next e => rw [if_pos e] at h1; omega
    · next e => rw [if_neg e] at h1; exact pr_ge h k (by omega) r h1
theorem pr_sp {L H : Nat → Int} {n : Nat} (h : ∀ k, k < n → 0 ≤ H k) (r : Nat) : ∀ d, d ≤ n → pr L H n r = if pr L H (n - d) r < 0 then sp L H n d r else pr L H (n - d) r
  | 0, _ => by
    simp only [Nat.sub_zero, sp]
    split
    · next e => exact pr_ge h n (Nat.le_refl _) r e
    · rfl
  | d + 1, hd => by
    rw [pr_sp h r d (by omega)]
    have e : n - d = (n - 1 - d) + 1 := by omega
    have e' : n - (d + 1) = n - 1 - d := by omega
    have hH := h (n - 1 - d) (by omega)
    rw [e, e']
    show (if (if L (n - 1 - d) = (r : Int) ∧ pr L H (n - 1 - d) r < 0 then H (n - 1 - d) else pr L H (n - 1 - d) r) < 0 then sp L H n d r else (if L (n - 1 - d) = (r : Int) ∧ pr L H (n - 1 - d) r < 0 then H (n - 1 - d) else pr L H (n - 1 - d) r)) = (if pr L H (n - 1 - d) r < 0 then (if L (n - 1 - d) = (r : Int) then H (n - 1 - d) else sp L H n d r) else pr L H (n - 1 - d) r)
    by_cases h1 : L (n - 1 - d) = (r : Int) <;> by_cases h2 : pr L H (n - 1 - d) r < 0
    · have : ¬ H (n - 1 - d) < 0 := by omega
      simp [h1, h2, this]
    · simp [h1, h2]
    · simp [h1, h2]
    · simp [h1, h2]
theorem pr_is_sp {L H : Nat → Int} {n : Nat} (h : ∀ k, k < n → 0 ≤ H k) (r : Nat) : pr L H n r = sp L H n n r := by
  rw [pr_sp h r n (Nat.le_refl _)]
  simp [pr]
theorem sp_at {L H : Nat → Int} {n d : Nat} {q : Nat} (h : L (n - 1 - d) = (q : Int)) (j : Nat) : sp L H n (d + 1) j = if j = q then H (n - 1 - d) else sp L H n d j := by
  show (if L (n - 1 - d) = (j : Int) then H (n - 1 - d) else sp L H n d j) = _
  by_cases e : j = q
  · rw [if_pos e, if_pos (by omega)]
  · rw [if_neg e, if_neg (by omega)]
theorem pr_at {L H : Nat → Int} {k : Nat} {q : Nat} (h : L k = (q : Int)) (j : Nat) : pr L H (k + 1) j = if j = q ∧ pr L H k j < 0 then H k else pr L H k j := by
  show (if L k = (j : Int) ∧ pr L H k j < 0 then H k else pr L H k j) = _
  by_cases e : j = q
  · subst e; simp [h]
  · have : ¬ L k = (j : Int) := by omega
    simp [e, this]
/-- How long the list is that Parents answers. -/
def lenP (p : Int) (n : Nat) (L H : Nat → Int) : Nat := if edgesB p n L H then p.toNat else 0
theorem lenP_le (p : Int) (n : Nat) (L H : Nat → Int) : lenP p n L H ≤ 24 := by
  unfold lenP edgesB inB
  split
  · next h => simp at h; omega
  · omega
set_option maxHeartbeats 1000000 in
theorem l4Parents_any (p : Nat) (ao : Option Addr) (n cap : Nat) (L H : Nat → Int) (hp1 : 1 ≤ p) (hp2 : p ≤ 24) (hn : n ≤ 1048576) (he : edB p L H n = true) (w : World) (hr : ERow w ao n L H) :
    Calls Try.prog 83 #[.slice ao n cap, .int .i64 p] w fun e w' => ∃ g c, e = .returned (.slice (some ⟨g, 0, none⟩) p c) ∧ w.heap.size ≤ g ∧ IHas w' g p (sp L H n n) ∧ Below w.heap.size w w' := by
  have HE : Hid (∀ k, k < n → edgeB (L k) (H k) p = true) := edB_at n he
  clear he
  have hO0 : IOwn (w.alloc (.cells #[] 2)) w.heap.size w.heap.size 0 0 (fun _ => -1) := IOwn.empty w (Nat.le_refl _) _
  go_enter Try.func83, Try.ntmps83
  go_wp2
  go_loopw [5, 6] (fun d i wr => ∃ k g c : Nat, k ≤ p ∧ i = .int .i64 k ∧ d = .slice (some ⟨g, 0, none⟩) k c ∧ IOwn wr w.heap.size g c k (fun _ => -1) ∧ Below w.heap.size w wr) (fun _ i _ => p - (intOf i).toNat)
  case atStart => exact ⟨0, w.heap.size, 0, Nat.zero_le _, rfl, rfl, hO0, (Below.refl _ _).alloc (by simp) _⟩
  case round =>
    clear hO0
    obtain ⟨k, g, c, hk, rfl, rfl, hown, hbel⟩ := hrel
    have hgl := hown.lt
    have hgb := hown.base
    by_cases hlt : k < p
    · have hlt' : (k : Int) < (p : Int) := by omega
      go_wp2_with (at_builtin; refine wpList_append_int rfl _ _ rfl w.heap.size g c k (fun _ => -1) rfl (by exact hown.below ((Below.refl _ _).alloc (Nat.le_refl _) _) (by omega)) ⟨wr.heap.size, 0, none⟩ 1 (-1) rfl (by simp [go_sem]) (by omega) (by simp; omega) ?_; intro g' c' w2 hown2 hgrow2 hat2)
      have hB2 := (hbel.alloc (o := .cells #[.int .i64 (-1)] 2) hbel.size).grown hgrow2 (by have := hbel.size; simp; omega) (fun j hj => by cases hj; omega)
      go_wp2
      go_roundw
      case rel => exact ⟨k + 1, g', c', by omega, by go_num, rfl, hown2 _ (fun _ _ => rfl) rfl, hB2⟩
      case measure => simp [intOf]; omega
    have hkp : k = p := by omega
    subst hkp
    have hI0 : IHas wr g k (sp L H n 0) := hown.has.congr (fun _ _ => rfl)
    clear hown
    go_wp2
    go_loopw [7] (fun x wq => ∃ d : Nat, d ≤ n ∧ x = .int .i64 ((n : Int) - 1 - d) ∧ IHas wq g k (sp L H n d) ∧ Below w.heap.size w wq) (fun x _ => (intOf x + 1).toNat)
    case atStart => exact ⟨0, Nat.zero_le _, by simp, hI0, hbel⟩
    case round =>
      clear hI0 hbel
      obtain ⟨d, hd, rfl, hI, hbel⟩ := hrel
      by_cases hlt : d < n
      rotate_left
      · have hdn : d = n := by omega
        subst hdn
        go_wp2
        go_ret
        exact ⟨g, c, rfl, hgb, hI, hbel⟩
      obtain ⟨y, hyd⟩ : ∃ y, y + d + 1 = n := ⟨n - 1 - d, by omega⟩
      have hyy : n - 1 - d = y := by omega
      obtain ⟨b, o, hao, c0, c1⟩ := (hr.below hbel (Nat.le_refl _)) y (by omega)
      have hbg : b < w.heap.size := by
        obtain ⟨b', o', e', k0, _⟩ := hr y (by omega)
        rw [hao] at e'
        simp at e'
        have := lt_of_cell k0
        omega
      have hne1 : b ≠ g := by omega
      have hne2 : g ≠ b := by omega
      clear hbg
      subst hao
      obtain ⟨h0, h1, h2⟩ := edgeB_in (HE.out y (by omega))
      obtain ⟨q, hq⟩ : ∃ q : Nat, L y = (q : Int) := ⟨(L y).toNat, by omega⟩
      have hS : Hid (∀ j, sp L H n (d + 1) j = if j = q then H y else sp L H n d j) := fun j => by
        have := sp_at (L := L) (H := H) (n := n) (d := d) (q := q) (by rw [hyy]; exact hq) j
        rw [hyy] at this
        exact this
      rw [hq] at c0 h0 h1
      clear hq
      have hqn : q < k := by omega
      have d0 := hI.cell hqn
      have z0 := hI.frozen q
      have HR : Hid (IHas (wr.setCell ⟨g, q, none⟩ (.int .i64 (H y))) g k (sp L H n (d + 1))) := (hI.set q (H y)).congr (fun j _ => (hS.out j).symm)
      have HS : Hid (Below w.heap.size w (wr.setCell ⟨g, q, none⟩ (.int .i64 (H y)))) := hbel.setCell (p := ⟨g, q, none⟩) hgb (.int .i64 (H y))
      have hqn' : (q : Int) < (k : Int) := by omega
      have hx : ((n : Int) - 1 - d) = (y : Int) := by omega
      have hy : (y : Int) < (n : Int) := by omega
      have hyn : y < n := by omega
      rw [hx]
      have hf : ((n : Int) - 1 - (d + 1 : Nat)) = (y : Int) - 1 := by omega
      have hd' : d + 1 ≤ n := by omega
      clear hI hx h1 h2 hbel hS hyd hyy hlt hd
      go_wp2
      go_big_region
      go_wp2
      go_roundw
      case rel => exact ⟨d + 1, hd', by rw [hf], IHas.of_block HR.out rfl, HS.out.drew⟩
      case measure => simp [intOf]

end Go.Proofs.Ytdgnlpafmkhdjaa

/-
  Parents, the document's, at every list.
-/
set_option linter.unusedVariables false
set_option linter.unusedSimpArgs false
namespace Go.Proofs.Ytdgnlpafmkhdjaa
open Go.RowKit
attribute [local go_sem ↓] Go.wp_at_zero Go.wp_at_succ

set_option maxHeartbeats 1000000 in
theorem specParents_any (p : Int) (ao : Option Addr) (n cap : Nat) (L H : Nat → Int) (hn : n ≤ 1048576) (w : World) (hr : ERow w ao n L H) :
    Calls Try.prog 41 #[.slice ao n cap, .int .i64 p] w fun e w' => Ans w w' e (lenP p n L H) (sp L H n n) := by
  rcases Bool.eq_false_or_eq_true (edgesB p n L H) with h | h
  rotate_left
  · have hL : lenP p n L H = 0 := by simp [lenP, h]
    rw [hL]
    go_enter Try.func41, Try.ntmps41
    go_wp2_with (go_at_call 81; refine (l4Edges_any p ao n cap L H hn _ hr).mono ?_; rintro e w1 ⟨rfl, hb1⟩)
    go_ret
    exact ⟨_, _, rfl, fun h => by omega, hb1.alloc (by have := hb1.size; omega) _⟩
  have hL : lenP p n L H = p.toNat := by simp [lenP, h]
  rw [hL]
  have h' : (1 ≤ p ∧ p ≤ 24) ∧ edB p L H n = true := by simpa [edgesB, inB] using h
  obtain ⟨⟨hp1, hp2⟩, hed⟩ := h'
  obtain ⟨m, rfl⟩ : ∃ m : Nat, p = (m : Int) := ⟨p.toNat, by omega⟩
  have HE : Hid (edB m L H n = true) := hed
  have hm1 : 1 ≤ m := by omega
  have hm2 : m ≤ 24 := by omega
  clear hed hL
  simp only [Int.toNat_natCast]
  go_enter Try.func41, Try.ntmps41
  go_wp2_with (first | (go_at_call 81; refine (l4Edges_any m ao n cap L H hn _ hr).mono ?_; rintro e w1 ⟨rfl, hb1⟩) | (go_at_call 83; refine (l4Parents_any m ao n cap L H hm1 hm2 hn HE.out _ (hr.below hb1 (Nat.le_refl _))).mono ?_; rintro e w2 ⟨g, c, rfl, hg, hI, hb2⟩))
  go_ret
  exact ⟨_, _, rfl, fun _ => ⟨_, rfl, by have := hb1.size; omega, hI⟩, below_next hb1 (Nat.le_refl _) hb2⟩

end Go.Proofs.Ytdgnlpafmkhdjaa

/-
  Chordal: what it asks.
-/
set_option linter.unusedVariables false
set_option linter.unusedSimpArgs false
namespace Go.Proofs.Ytdgnlpafmkhdjaa
open Go.RowKit
attribute [local go_sem ↓] Go.wp_at_zero Go.wp_at_succ

/-- The edge is there. -/
def Hs (n : Nat) (L H : Nat → Int) (a b : Int) : Prop := ∃ i, i < n ∧ L i = a ∧ H i = b
/-- For each two edges of the first m with one Low, and those behind: the edge between their Highs is there. -/
def ChdTo (n : Nat) (L H : Nat → Int) (m : Nat) : Prop := ∀ i, i < m → ∀ k, i < k → k < n → (∀ j, i < j → j ≤ k → L j = L i) → Hs n L H (H i) (H k)
def Chd (p : Int) (n : Nat) (L H : Nat → Int) : Prop := edgesB p n L H = true ∧ ChdTo n L H n

end Go.Proofs.Ytdgnlpafmkhdjaa

/-
  The fill is as told, chordal, and has each arc's edge: the plain part.
-/
set_option linter.unusedVariables false
set_option linter.unusedSimpArgs false
namespace Go.Proofs.Ytdgnlpafmkhdjaa

theorem tk_keeps {B : Nat → Nat → Bool} {a x y : Nat} (hx : x ≠ a) (hy : y ≠ a) (h : B x y = true) : tk B a x y = true := by
  unfold tk
  rw [if_neg (by omega), h]; rfl
theorem tk_joins {B : Nat → Nat → Bool} {a x y : Nat} (hx : x ≠ a) (hy : y ≠ a) (hxy : x ≠ y) (h1 : B a x = true) (h2 : B a y = true) : tk B a x y = true := by
  unfold tk
  rw [if_neg (by omega), h1, h2]
  have : (x != y) = true := by simpa using hxy
  rw [this]; simp
theorem place_ne {p : Nat} {P : Nat → Int} (he : eachB p P p = true) {i j : Nat} (hi : i < p) (hj : j < p) (h : i ≠ j) : (P i).toNat ≠ (P j).toNat := fun e => by
  have h1 := (each_in p he i hi).1
  have h2 := (each_in p he j hj).1
  exact h (each_inj he hi hj (by omega))
/-- Two that are joined stay so till one of them goes. -/
theorem sqO_stays {B : Nat → Nat → Bool} {P : Nat → Int} {p : Nat} (he : eachB p P p = true) {x y t : Nat} (hx : x < p) (hy : y < p) (h : sqO B P t (P x).toNat (P y).toNat = true) : ∀ s, t ≤ s → s ≤ x → s ≤ y → sqO B P s (P x).toNat (P y).toNat = true := fun s hs h1 h2 => by
  induction s with
  | zero =>
    have : t = 0 := by omega
    subst this; exact h
  | succ s ih =>
    by_cases e : t = s + 1
    · subst e; exact h
    · have := ih (by omega) (by omega) (by omega)
      exact tk_keeps (place_ne he hx (by omega) (by omega)) (place_ne he hy (by omega) (by omega)) this
theorem fill_chord {B : Nat → Nat → Bool} {P : Nat → Int} {p : Nat} (he : eachB p P p = true) {r u v : Nat} (hr : r < u) (huv : u < v) (hv : v < p) (h1 : sqO B P r (P r).toNat (P u).toNat = true) (h2 : sqO B P r (P r).toNat (P v).toNat = true) : sqO B P u (P u).toNat (P v).toNat = true := by
  have h3 : sqO B P (r + 1) (P u).toNat (P v).toNat = true := tk_joins (place_ne he (by omega) (by omega) (by omega)) (place_ne he hv (by omega) (by omega)) (place_ne he (by omega) hv (by omega)) h1 h2
  exact sqO_stays he (by omega) hv h3 u (by omega) (Nat.le_refl _) (by omega)
theorem nbA_has {F T : Nat → Int} : ∀ n i, i < n → nbA F T n (F i).toNat (T i).toNat = true
  | 0, i, hi => by omega
  | n + 1, i, hi => by
    show upd2 (nbA F T n) (F n).toNat (T n).toNat true (F i).toNat (T i).toNat = true
    rw [upd2_at]
    by_cases e : i = n
    · subst e; rw [if_pos (Or.inl ⟨rfl, rfl⟩)]
    · split
      · rfl
      · exact nbA_has n i (by omega)

theorem getD_at {l : List (Int × Int)} {k : Nat} (hk : k < l.length) : l.getD k (0, 0) = l[k] := by simp [List.getD, hk]
theorem hs_mem {l : List (Int × Int)} {a b : Int} : Hs l.length (Lf l) (Hf l) a b ↔ (a, b) ∈ l := by
  constructor
  · rintro ⟨i, hi, h1, h2⟩
    unfold Lf at h1
    unfold Hf at h2
    rw [getD_at hi] at h1 h2
    have : l[i] = (a, b) := Prod.ext h1 h2
    rw [← this]
    exact List.getElem_mem hi
  · intro h
    obtain ⟨i, hi, e⟩ := List.mem_iff_getElem.1 h
    refine ⟨i, hi, ?_, ?_⟩
    · unfold Lf; rw [getD_at hi, e]
    · unfold Hf; rw [getD_at hi, e]
theorem ed_of_list {p : Int} {l : List (Int × Int)} (h1 : ∀ x ∈ l, edgeB x.1 x.2 p = true) (h2 : l.Pairwise lt2) : ∀ k, k ≤ l.length → edB p (Lf l) (Hf l) k = true
  | 0, _ => rfl
  | k + 1, hk => by
    have hk' : k < l.length := by omega
    refine edB_step (ed_of_list h1 h2 k (by omega)) ?_ ?_
    · unfold Lf Hf
      rw [getD_at hk']
      exact h1 _ (List.getElem_mem hk')
    · by_cases e : k = 0
      · exact Or.inl e
      · right
        have hk2 : k - 1 < l.length := by omega
        unfold Lf Hf
        rw [getD_at hk', getD_at hk2]
        exact List.pairwise_iff_getElem.1 h2 (k - 1) k hk2 hk' (by omega)
/-- The fill of an order is as Parents wants it, and chordal. -/
theorem fill_ok {B : Nat → Nat → Bool} {P : Nat → Int} {p : Nat} (hp1 : 1 ≤ p) (hp : p ≤ 24) (he : eachB p P p = true) :
    Chd (p : Int) (allS B P p p).length (Lf (allS B P p p)) (Hf (allS B P p p)) := by
  have hall : ∀ x ∈ allS B P p p, ∃ r h : Nat, r < h ∧ h < p ∧ sqO B P r (P r).toNat (P h).toNat = true ∧ x = ((r : Int), (h : Int)) := fun x hx => by
    obtain ⟨r, h, _, h2, h3, h4, h5⟩ := (mem_allS x p).1 hx
    exact ⟨r, h, h3, h2, h4, h5⟩
  have hsrt := srt_allS (B := B) (P := P) (p := p) p
  have hin : ∀ r h : Nat, r < h → h < p → sqO B P r (P r).toNat (P h).toNat = true → ((r : Int), (h : Int)) ∈ allS B P p p := fun r h h1 h2 h3 => (mem_allS _ p).2 ⟨r, h, by omega, h2, h1, h3, rfl⟩
  generalize allS B P p p = l at hall hsrt hin ⊢
  refine ⟨?_, ?_⟩
  · unfold edgesB
    rw [ed_of_list (fun x hx => ?_) hsrt l.length (Nat.le_refl _)]
    · simp [inB]; omega
    · obtain ⟨r, h, h1, h2, _, rfl⟩ := hall x hx
      simp [edgeB, inB]; omega
  · intro i hi k hik hk hL
    rw [hs_mem]
    have e1 : Lf l k = Lf l i := hL k hik (Nat.le_refl _)
    have hlt := List.pairwise_iff_getElem.1 hsrt i k hi hk hik
    obtain ⟨r, u, a1, a2, a3, a4⟩ := hall _ (List.getElem_mem hi)
    obtain ⟨r', v, b1, b2, b3, b4⟩ := hall _ (List.getElem_mem hk)
    unfold Lf Hf at *
    rw [getD_at hi, getD_at hk] at *
    rw [a4, b4] at hlt
    rw [a4, b4] at e1 ⊢
    have e1' : r' = r := by
      have : ((r' : Nat) : Int) = (r : Int) := e1
      omega
    subst e1'
    rw [lt2_iff] at hlt
    simp at hlt
    exact hin u v (by omega) b2 (fill_chord he a1 (by omega) b2 a3 b3)
/-- Each arc's edge is in the fill. -/
theorem fill_arc {F T : Nat → Int} {n : Nat} {P : Nat → Int} {p : Nat} (he : eachB p P p = true) (hB : Fair (nbA F T n)) {i : Nat} (hi : i < n) (hF : 0 ≤ F i ∧ F i < (p : Int)) (hT : 0 ≤ T i ∧ T i < (p : Int)) (hne : F i ≠ T i) {x y : Nat} (hx : x < p) (hy : y < p) (ex : P x = F i) (ey : P y = T i) : (min (x : Int) y, max (x : Int) y) ∈ allS (nbA F T n) P p p := by
  have h0 := nbA_has n i hi (F := F) (T := T)
  have hxy : x ≠ y := fun e => by subst e; omega
  rw [← ex, ← ey] at h0
  by_cases hl : x < y
  · have e1 : min (x : Int) y = x := by omega
    have e2 : max (x : Int) y = y := by omega
    rw [e1, e2]
    exact (mem_allS _ p).2 ⟨x, y, hx, hy, hl, sqO_stays (B := nbA F T n) (t := 0) he hx hy h0 x (Nat.zero_le _) (Nat.le_refl _) (by omega), rfl⟩
  · have e1 : min (x : Int) y = y := by omega
    have e2 : max (x : Int) y = x := by omega
    rw [e1, e2]
    rw [hB.1] at h0
    exact (mem_allS _ p).2 ⟨y, x, hy, hx, by omega, sqO_stays (B := nbA F T n) (t := 0) he hy hx h0 y (Nat.zero_le _) (Nat.le_refl _) (by omega), rfl⟩

end Go.Proofs.Ytdgnlpafmkhdjaa

/-
  GraphOk, the program's helpers.
-/
set_option linter.unusedVariables false
set_option linter.unusedSimpArgs false
namespace Go.Proofs.Ytdgnlpafmkhdjaa
open Go.RowKit

theorem weightOk_any (x : Int) (w : World) :
    Calls Try.prog 47 #[.int .i64 x] w fun e w' => e = .returned (.bool (inB x 1 1000000)) ∧ w' = w := by
  by_cases h1 : 1 ≤ x <;> by_cases h2 : x ≤ 1000000 <;>
  · go_enter Try.func47, Try.ntmps47
    go_wp2
    go_ret
    exact ⟨by simp [inB, h1, h2], rfl⟩
set_option maxHeartbeats 800000 in
theorem arcOk_any (f t g p : Int) (w : World) :
    Calls Try.prog 56 #[.agg #[.int .i64 f, .int .i64 t, .int .i64 g], .int .i64 p] w fun e w' => e = .returned (.bool (arcB f t g p)) ∧ Below w.heap.size w w' := by
  unfold arcB
  rcases Bool.eq_false_or_eq_true (inB f 0 (p - 1)) with h1 | h1
  · rcases Bool.eq_false_or_eq_true (inB t 0 (p - 1)) with h2 | h2
    · rcases Bool.eq_false_or_eq_true (f != t) with h3 | h3 <;>
      · go_enter Try.func56, Try.ntmps56
        go_wp2_with (first | (go_at_call 58; refine (placeOk_any _ _ _).mono ?_; rintro e w1 ⟨rfl, rfl⟩) | (go_at_call 47; refine (weightOk_any _ _).mono ?_; rintro e w1 ⟨rfl, rfl⟩))
        go_ret
        exact ⟨by simp [h1, h2, h3], (Below.refl _ _).alloc (Nat.le_refl _) _⟩
    · go_enter Try.func56, Try.ntmps56
      go_wp2_with (first | (go_at_call 58; refine (placeOk_any _ _ _).mono ?_; rintro e w1 ⟨rfl, rfl⟩) | (go_at_call 47; refine (weightOk_any _ _).mono ?_; rintro e w1 ⟨rfl, rfl⟩))
      go_ret
      exact ⟨by simp [h1, h2], (Below.refl _ _).alloc (Nat.le_refl _) _⟩
  · go_enter Try.func56, Try.ntmps56
    go_wp2_with (first | (go_at_call 58; refine (placeOk_any _ _ _).mono ?_; rintro e w1 ⟨rfl, rfl⟩) | (go_at_call 47; refine (weightOk_any _ _).mono ?_; rintro e w1 ⟨rfl, rfl⟩))
    go_ret
    exact ⟨by simp [h1], (Below.refl _ _).alloc (Nat.le_refl _) _⟩
theorem endsOf_any (f t g : Int) (w : World) :
    Calls Try.prog 46 #[.agg #[.int .i64 f, .int .i64 t, .int .i64 g]] w fun e w' => e = .returned (.agg #[.int .i64 f, .int .i64 t]) ∧ Below w.heap.size w w' := by
  go_enter Try.func46, Try.ntmps46
  go_wp2
  simp [bodyPost, results, Try.results46, go_sem]
  exact ((Below.refl _ _).alloc (Nat.le_refl _) _).alloc (by simp) _
set_option maxHeartbeats 800000 in
theorem below_any (f t f' t' : Int) (w : World) :
    Calls Try.prog 57 #[.agg #[.int .i64 f, .int .i64 t], .agg #[.int .i64 f', .int .i64 t']] w fun e w' => e = .returned (.bool (upB f t f' t')) ∧ Below w.heap.size w w' := by
  unfold upB
  by_cases h1 : f < f'
  · go_enter Try.func57, Try.ntmps57
    go_wp2
    go_ret
    exact ⟨by simp [h1], ((Below.refl _ _).alloc (Nat.le_refl _) _).alloc (by simp) _⟩
  · rcases Bool.eq_false_or_eq_true (f == f') with h2 | h2
    · by_cases h3 : t < t' <;>
      · go_enter Try.func57, Try.ntmps57
        go_wp2
        go_ret
        exact ⟨by simp [h1, h2, h3], ((Below.refl _ _).alloc (Nat.le_refl _) _).alloc (by simp) _⟩
    · go_enter Try.func57, Try.ntmps57
      go_wp2
      go_ret
      exact ⟨by simp [h1, h2], ((Below.refl _ _).alloc (Nat.le_refl _) _).alloc (by simp) _⟩

end Go.Proofs.Ytdgnlpafmkhdjaa

/-
  The program's GraphOk answers 'graphB' of the map's places and arcs, for every map.
-/
set_option linter.unusedVariables false
set_option linter.unusedSimpArgs false
namespace Go.Proofs.Ytdgnlpafmkhdjaa
open Go.RowKit
attribute [local go_sem ↓] Go.wp_at_zero Go.wp_at_succ

set_option maxHeartbeats 1600000 in
theorem implGraphOk_any (p : Int) (ao : Option Addr) (n cap : Nat) (F T G : Nat → Int) (hn : n ≤ 1048576) (w : World) (hr : Row w ao n F T G) :
    Calls Try.prog 15 #[.agg #[.int .i64 p, .slice ao n cap]] w fun e w' => e = .returned (.bool (graphB p n F T G)) ∧ Below w.heap.size w w' := by
  by_cases h1 : p < 1
  · go_enter Try.func15, Try.ntmps15
    go_wp2
    go_ret
    exact ⟨ret_bool (by simp [graphB, inB]; omega), (Below.refl _ _).alloc (Nat.le_refl _) _⟩
  by_cases h2 : 24 < p
  · go_enter Try.func15, Try.ntmps15
    go_wp2
    go_ret
    exact ⟨ret_bool (by simp [graphB, inB]; omega), (Below.refl _ _).alloc (Nat.le_refl _) _⟩
  have hin : Hid (inB p 1 24 = true) := by show inB p 1 24 = true; simp [inB]; omega
  by_cases h3 : 100 < n
  · go_enter Try.func15, Try.ntmps15
    go_wp2
    go_ret
    exact ⟨ret_bool (by simp [graphB]; omega), (Below.refl _ _).alloc (Nat.le_refl _) _⟩
  have hn' : Hid (decide (n ≤ 100) = true) := by show decide (n ≤ 100) = true; simp; omega
  go_enter Try.func15, Try.ntmps15
  go_wp2
  go_loopw [22] (fun i wr => ∃ k : Nat, k ≤ n ∧ i = .int .i64 k ∧ arcsB p F T G k = true ∧ Below (w.heap.size + 1) (w.alloc (.cells #[.int .i64 p, .slice ao n cap] 26)) wr) (fun i _ => n - (intOf i).toNat)
  case atStart => exact ⟨0, Nat.zero_le _, rfl, rfl, Below.refl _ _⟩
  case round =>
    obtain ⟨k, hk, rfl, hok, hbel⟩ := hrel
    have g0 : wr.cell? ⟨w.heap.size, 0, none⟩ = some (.int .i64 p) := by rw [hbel.cell (by simp)]; simp [go_sem]
    have g1 : wr.cell? ⟨w.heap.size, 1, none⟩ = some (.slice ao n cap) := by rw [hbel.cell (by simp)]; simp [go_sem]
    have hsz : w.heap.size < wr.heap.size := by have := hbel.size; simp at this; omega
    have HOK : Hid (arcsB p F T G k = true) := hok
    clear hok
    by_cases hlt : k < n
    rotate_left
    · have hkn : k = n := by omega
      subst hkn
      go_wp2
      go_ret
      exact ⟨ret_bool (by simp [graphB, hin.out, hn'.out, HOK.out]), unbox hbel (by omega)⟩
    obtain ⟨b, o, hao, c0, c1, c2⟩ := ((hr.alloc _).below hbel (by simp)) k hlt
    subst hao
    rcases Bool.eq_false_or_eq_true (arcB (F k) (T k) (G k) p) with ha | ha
    rotate_left
    · go_wp2_with (go_at_call 56; refine (arcOk_any _ _ _ _ _).mono ?_; rintro e w1 ⟨rfl, hb1⟩)
      go_ret
      exact ⟨ret_bool (by simp [graphB, hin.out, arcsB_no ha n hlt]), unbox ((hbel.alloc (by omega) _).trans (hb1.mono (by simp; omega))) (by omega)⟩
    by_cases h0 : 0 < k
    rotate_left
    · have hd : decide (0 < (k : Int)) = false := by simp; omega
      go_wp2_with (go_at_call 56; refine (arcOk_any _ _ _ _ _).mono ?_; rintro e w1 ⟨rfl, hb1⟩)
      go_quiet (fail)
      go_wp2
      go_roundw
      case rel => exact ⟨k + 1, by omega, by go_num, arcsB_step HOK.out ha (Or.inl (by omega)), below_drewN ((hbel.alloc (by omega) _).trans (hb1.mono (by simp; omega))) _⟩
      case measure => simp [intOf]; omega
    have hbw : b < wr.heap.size := lt_of_cell c0
    obtain ⟨b', o', hao', d0, d1, d2⟩ := ((hr.alloc _).below hbel (by simp)) (k - 1) (by omega)
    simp only [Option.some.injEq, Addr.mk.injEq, and_true] at hao'
    obtain ⟨rfl, rfl⟩ := hao'
    have hk1 : (0 : Int) ≤ (k : Int) - 1 := by omega
    have hk2 : (k : Int) - 1 < (n : Int) := by omega
    have hk3 : IntKind.i64.wrap ((k : Int) - 1) = (k : Int) - 1 := by rw [IntKind.wrap_i64]; omega
    have hk4 : ((k : Int) - 1).toNat = k - 1 := by omega
    have hk5 : (1 : Int) ≤ (k : Int) := by omega
    have hk6 : (k : Int) ≤ (n : Int) := by omega
    have hk7 : 1 ≤ k := by omega
    rcases Bool.eq_false_or_eq_true (upB (F (k - 1)) (T (k - 1)) (F k) (T k)) with hu | hu
    · go_wp2_with (go_at_call 56; refine (arcOk_any _ _ _ _ _).mono ?_; rintro e w1 ⟨rfl, hb1⟩)
      have hbw1 := unbox hb1 (by simp)
      have hA := (hbel.alloc (by omega) _).trans (hb1.mono (by simp; omega))
      have s0 := keep_cell hbw1 (Nat.le_refl _) g1
      have s1 := keep_cell hbw1 (Nat.le_refl _) d0
      have s2 := keep_cell hbw1 (Nat.le_refl _) d1
      have s3 := keep_cell hbw1 (Nat.le_refl _) d2
      have s4 := keep_cell hb1 (Nat.le_refl _) (b := wr.heap.size) (o := 0) (by simp [go_sem]; rfl)
      have s5 := keep_cell hb1 (Nat.le_refl _) (b := wr.heap.size) (o := 1) (by simp [go_sem]; rfl)
      have s6 := keep_cell hb1 (Nat.le_refl _) (b := wr.heap.size) (o := 2) (by simp [go_sem]; rfl)
      go_region_held3 (fun w' => w'.cell? ⟨w.heap.size, 1, none⟩ = some (.slice (some ⟨b, o, none⟩) n cap) ∧ w'.cell? ⟨b, o + (k - 1) * 3, none⟩ = some (.int .i64 (F (k - 1))) ∧ w'.cell? ⟨b, o + (k - 1) * 3 + 1, none⟩ = some (.int .i64 (T (k - 1))) ∧ w'.cell? ⟨b, o + (k - 1) * 3 + 2, none⟩ = some (.int .i64 (G (k - 1))) ∧ w'.cell? ⟨wr.heap.size, 0, none⟩ = some (.int .i64 (F k)) ∧ w'.cell? ⟨wr.heap.size, 1, none⟩ = some (.int .i64 (T k)) ∧ w'.cell? ⟨wr.heap.size, 2, none⟩ = some (.int .i64 (G k)))
        (first | (go_split_ands; refine ⟨?_, ?_, ?_, ?_, ?_, ?_, ?_⟩ <;> exact keep_cell ‹_› (Nat.le_refl _) (by assumption)) | go_keep)
        (first | (go_at_call 46; refine (endsOf_any _ _ _ _).mono ?_; rintro e w2 ⟨rfl, hb2⟩; (first | have hA := below_next hA (by simp) hb2 | have hA := below_next hA.drew (by simp) hb2)) | (go_at_call 57; refine (below_any _ _ _ _ _).mono ?_; rintro e w3 ⟨rfl, hb3⟩; have hA := below_next hA (by simp) hb3))
      go_wp2
      go_roundw
      case rel => exact ⟨k + 1, by omega, by go_num, arcsB_step HOK.out ha (Or.inr hu), hA⟩
      case measure => simp [intOf]; omega
    · go_wp2_with (go_at_call 56; refine (arcOk_any _ _ _ _ _).mono ?_; rintro e w1 ⟨rfl, hb1⟩)
      have hbw1 := unbox hb1 (by simp)
      have hA := (hbel.alloc (by omega) _).trans (hb1.mono (by simp; omega))
      have s0 := keep_cell hbw1 (Nat.le_refl _) g1
      have s1 := keep_cell hbw1 (Nat.le_refl _) d0
      have s2 := keep_cell hbw1 (Nat.le_refl _) d1
      have s3 := keep_cell hbw1 (Nat.le_refl _) d2
      have s4 := keep_cell hb1 (Nat.le_refl _) (b := wr.heap.size) (o := 0) (by simp [go_sem]; rfl)
      have s5 := keep_cell hb1 (Nat.le_refl _) (b := wr.heap.size) (o := 1) (by simp [go_sem]; rfl)
      have s6 := keep_cell hb1 (Nat.le_refl _) (b := wr.heap.size) (o := 2) (by simp [go_sem]; rfl)
      go_region_held3 (fun w' => w'.cell? ⟨w.heap.size, 1, none⟩ = some (.slice (some ⟨b, o, none⟩) n cap) ∧ w'.cell? ⟨b, o + (k - 1) * 3, none⟩ = some (.int .i64 (F (k - 1))) ∧ w'.cell? ⟨b, o + (k - 1) * 3 + 1, none⟩ = some (.int .i64 (T (k - 1))) ∧ w'.cell? ⟨b, o + (k - 1) * 3 + 2, none⟩ = some (.int .i64 (G (k - 1))) ∧ w'.cell? ⟨wr.heap.size, 0, none⟩ = some (.int .i64 (F k)) ∧ w'.cell? ⟨wr.heap.size, 1, none⟩ = some (.int .i64 (T k)) ∧ w'.cell? ⟨wr.heap.size, 2, none⟩ = some (.int .i64 (G k)))
        (first | (go_split_ands; refine ⟨?_, ?_, ?_, ?_, ?_, ?_, ?_⟩ <;> exact keep_cell ‹_› (Nat.le_refl _) (by assumption)) | go_keep)
        (first | (go_at_call 46; refine (endsOf_any _ _ _ _).mono ?_; rintro e w2 ⟨rfl, hb2⟩; (first | have hA := below_next hA (by simp) hb2 | have hA := below_next hA.drew (by simp) hb2)) | (go_at_call 57; refine (below_any _ _ _ _ _).mono ?_; rintro e w3 ⟨rfl, hb3⟩; have hA := below_next hA (by simp) hb3))
      go_wp2
      go_ret
      exact ⟨ret_bool (by simp [graphB, hin.out, arcsB_down h0 hu n hlt]), unbox hA (by omega)⟩

end Go.Proofs.Ytdgnlpafmkhdjaa

/-
  Ranks, the program's: the same list, in new memory. For every list of at most 2^20 numbers.
-/
set_option linter.unusedVariables false
set_option linter.unusedSimpArgs false
namespace Go.Proofs.Ytdgnlpafmkhdjaa
open Go.RowKit
attribute [local go_sem ↓] Go.wp_at_zero Go.wp_at_succ

set_option maxHeartbeats 1000000 in
theorem implRanks_any (ao : Option Addr) (n cap : Nat) (P : Nat → Int) (hn : n ≤ 1048576) (w : World) (hr : IRow w ao n P) :
    Calls Try.prog 31 #[.slice ao n cap] w fun e w' => Ans w w' e (lenR n P) (rk P (-1) n) := by
  by_cases h2 : 24 < n
  · have h2' : 24 < (n : Int) := by omega
    have hL : lenR n P = 0 := by
      have : ¬ n ≤ 24 := by omega
      simp [lenR, okR, this]
    rw [hL]
    go_enter Try.func31, Try.ntmps31
    go_wp2
    go_ret
    exact ⟨_, _, rfl, fun h => by omega, (Below.refl _ _).alloc (Nat.le_refl _) _⟩
  have h2' : ¬ 24 < (n : Int) := by omega
  have hmk := make_ints n hn
  go_enter Try.func31, Try.ntmps31
  go_wp2
  clear hmk
  go_loopw [16] (fun i wr => ∃ k : Nat, k ≤ n ∧ i = .int .i64 k ∧ IHas wr w.heap.size n (fun j => if j < k then -1 else 0) ∧ Below w.heap.size w wr) (fun i _ => n - (intOf i).toNat)
  case atStart => exact ⟨0, Nat.zero_le _, rfl, (made_ints w n).congr (fun j _ => by simp), (Below.refl _ _).alloc (Nat.le_refl _) _⟩
  case round =>
    obtain ⟨k, hk, rfl, hown, hbel⟩ := hrel
    by_cases hlt : k < n
    · have d0 := hown.cell hlt
      have z0 := hown.frozen k
      have R := hown.set k (-1)
      have S := hbel.setCell (p := ⟨w.heap.size, k, none⟩) (Nat.le_refl _) (.int .i64 (-1))
      clear hown
      go_wp2
      go_roundw
      case rel =>
        refine ⟨k + 1, by omega, by go_num, R.congr (fun j hj => ?_), S⟩
        by_cases e : j = k
        · subst e; simp
        · simp only [if_neg e]
          by_cases hl : j < k
          · rw [if_pos hl, if_pos (by omega)]
          · rw [if_neg hl, if_neg (by omega)]
      case measure => simp [intOf]; omega
    have hkn : k = n := by omega
    subst hkn
    have hown0 := hown.congr (g := rk P (-1) 0) (fun j hj => by simp [rk, hj])
    clear hown
    go_wp2
    go_loopw [25] (fun i wq => ∃ m : Nat, m ≤ k ∧ i = .int .i64 m ∧ eachB k P m = true ∧ IHas wq w.heap.size k (rk P (-1) m) ∧ Below w.heap.size w wq) (fun i _ => k - (intOf i).toNat)
    case atStart => exact ⟨0, Nat.zero_le _, rfl, rfl, hown0, hbel⟩
    case round =>
      clear hown0 hbel
      obtain ⟨m, hm, rfl, hea, hown, hbel⟩ := hrel
      have HE : Hid (eachB k P m = true) := hea
      clear hea
      by_cases hlt : m < k
      rotate_left
      · have hmk : m = k := by omega
        subst hmk
        have HL : Hid (lenR m P = m) := by
          show lenR m P = m
          by_cases h0 : m = 0
          · subst h0; simp [lenR]
          · have h1 : 1 ≤ m := by omega
            have h24 : m ≤ 24 := by omega
            simp [lenR, okR, HE.out, h1, h24]
        go_wp2
        go_ret
        exact ans_of HL.out ⟨_, _, rfl, fun _ => ⟨_, rfl, Nat.le_refl _, hown⟩, hbel⟩
      obtain ⟨b, o, hao, c0⟩ := (hr.below hbel (Nat.le_refl _)) m hlt
      subst hao
      have hm0 : (0 : Int) ≤ (m : Int) := by omega
      have hmk : (m : Int) < (k : Int) := by omega
      rcases Bool.eq_false_or_eq_true (inB (P m) 0 ((k : Int) - 1)) with hi | hi
      rotate_left
      · have HL : Hid (lenR k P = 0) := by
          show lenR k P = 0
          have : eachB k P k = false := eachB_no (k := m) (by simp [eachB, hi]) hlt
          simp [lenR, okR, this]
        go_wp2_with (go_at_call 58; refine (placeOk_any _ _ _).mono ?_; rintro e w1 ⟨rfl, rfl⟩)
        go_ret
        exact ans_of HL.out ⟨_, _, rfl, fun h => by omega, hbel.alloc hbel.size _⟩
      have hq0 : 0 ≤ P m ∧ P m ≤ (k : Int) - 1 := by simpa [inB] using hi
      obtain ⟨q, hq⟩ : ∃ q : Nat, P m = (q : Int) := ⟨(P m).toNat, by omega⟩
      have hS : Hid (∀ j, rk P (-1) (m + 1) j = if j = q then (m : Int) else rk P (-1) m j) := rk_at hq
      have hE : Hid (eachB k P (m + 1) = !sn P m q) := eachB_at HE.out hq hi
      rw [hq] at c0 hi hq0
      clear hq
      have hqn : q < k := by omega
      have d0 := hown.cell hqn
      have z0 := hown.frozen q
      have R := hown.set q (m : Int)
      have S := hbel.setCell (p := ⟨w.heap.size, q, none⟩) (Nat.le_refl _) (.int .i64 (m : Int))
      have hqn' : (q : Int) < (k : Int) := by omega
      have hrs := rk_sn P m q
      rcases Bool.eq_false_or_eq_true (sn P m q) with hs | hs
      · have hge : 0 ≤ rk P (-1) m q := hrs.1 hs
        clear hrs
        have HL : Hid (lenR k P = 0) := by
          show lenR k P = 0
          have : eachB k P k = false := eachB_no (k := m) (by rw [hE.out, hs]; rfl) hlt
          simp [lenR, okR, this]
        go_wp2_with (go_at_call 58; refine (placeOk_any _ _ _).mono ?_; rintro e w1 ⟨rfl, rfl⟩)
        go_ret
        exact ans_of HL.out ⟨_, _, rfl, fun h => by omega, hbel.alloc hbel.size _⟩
      · have hge : ¬ 0 ≤ rk P (-1) m q := fun h => by rw [hrs.2 h] at hs; cases hs
        clear hrs hown
        go_wp2_with (go_at_call 58; refine (placeOk_any _ _ _).mono ?_; rintro e w1 ⟨rfl, rfl⟩)
        go_roundw
        case rel => exact ⟨m + 1, by omega, by go_num, by rw [hE.out, hs]; rfl, R.congr (fun j _ => (hS.out j).symm), S⟩
        case measure => simp [intOf]; omega

end Go.Proofs.Ytdgnlpafmkhdjaa

/-
  OrderOk, the document's and the program's, at every map and every list of at most 2^20 numbers.
-/
set_option linter.unusedVariables false
set_option linter.unusedSimpArgs false
namespace Go.Proofs.Ytdgnlpafmkhdjaa
open Go.RowKit
attribute [local go_sem ↓] Go.wp_at_zero Go.wp_at_succ

set_option maxHeartbeats 1000000 in
theorem implOrderOk_any (p : Int) (ao : Option Addr) (n cap : Nat) (F T G : Nat → Int) (po : Option Addr) (m pcap : Nat) (P : Nat → Int) (hn : n ≤ 1048576) (hm : m ≤ 1048576) (w : World) (hr : Row w ao n F T G) (hp : IRow w po m P) :
    Calls Try.prog 29 #[.agg #[.int .i64 p, .slice ao n cap], .slice po m pcap] w fun e w' => e = .returned (.bool (ordB p n F T G m P)) ∧ Below w.heap.size w w' := by
  rcases Bool.eq_false_or_eq_true (graphB p n F T G) with h | h
  rotate_left
  · go_enter Try.func29, Try.ntmps29
    go_wp2_with (go_at_call 15; refine (implGraphOk_any p ao n cap F T G hn _ (hr.alloc _)).mono ?_; rintro e w1 ⟨rfl, hb1⟩)
    go_ret
    exact ⟨ret_bool (by simp [ordB, h]), unbox hb1 (by simp)⟩
  rcases Bool.eq_false_or_eq_true ((m : Int) == p) with h2 | h2
  rotate_left
  · go_enter Try.func29, Try.ntmps29
    go_wp2_with (go_at_call 15; refine (implGraphOk_any p ao n cap F T G hn _ (hr.alloc _)).mono ?_; rintro e w1 ⟨rfl, hb1⟩; obtain ⟨hc, hf⟩ := bcell hb1)
    go_ret
    exact ⟨ret_bool (by simp only [ordB, h, h2]; rfl), unbox hb1 (by simp)⟩
  have hL : ((lenR m P : Int) == (m : Int)) = okR m P := by
    have hp1 : 1 ≤ p ∧ p ≤ 24 := by
      simp [graphB, inB] at h
      omega
    have hmp : (m : Int) = p := by simpa using h2
    unfold lenR
    cases hk : okR m P
    · rw [Bool.eq_false_iff]; simp; omega
    · simp
  have HL : Hid (((lenR m P : Int) == (m : Int)) = okR m P) := hL
  clear hL
  go_enter Try.func29, Try.ntmps29
  go_wp2_with (first | (go_at_call 15; refine (implGraphOk_any p ao n cap F T G hn _ (hr.alloc _)).mono ?_; rintro e w1 ⟨rfl, hb1⟩; obtain ⟨hc, hf⟩ := bcell hb1) | (go_at_call 31; refine (implRanks_any po m pcap P hm _ ((hp.alloc _).below hb1 (Nat.le_refl _))).mono ?_; rintro e w2 ⟨aoR, capR, rfl, _, hb2⟩))
  go_ret
  exact ⟨ret_bool (by rw [HL.out]; simp only [ordB, h, h2]; rfl), unbox (below_next hb1 (Nat.le_refl _) hb2) (by simp)⟩

end Go.Proofs.Ytdgnlpafmkhdjaa
