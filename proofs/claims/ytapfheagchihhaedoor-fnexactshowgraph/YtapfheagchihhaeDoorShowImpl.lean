/-
  The program's text of a map is the document's.
-/
import Derived.Test.YtapfheagchihhaeDoorShowSpec
set_option linter.unusedVariables false
set_option linter.unusedSimpArgs false
namespace Go.Proofs.YtapfheagchihhaeDoor
open Go.RowKit
attribute [local go_sem ↓] Go.wp_at_zero Go.wp_at_succ

def restT (F T G : Nat → Int) : Nat → List (List UInt8)
  | 0 => []
  | k + 1 => restT F T G k ++ [dec (F k), dec (T k), dec (G k)]
def wordsT (p : Int) (F T G : Nat → Int) (k : Nat) : List (List UInt8) := dec p :: restT F T G k
theorem wordsT_succ (p : Int) (F T G : Nat → Int) (k : Nat) : wordsT p F T G (k + 1) = wordsT p F T G k ++ [dec (F k), dec (T k), dec (G k)] := by simp [wordsT, restT]
theorem wordsT_len (p : Int) (F T G : Nat → Int) : ∀ k, (wordsT p F T G k).length = 1 + 3 * k
  | 0 => rfl
  | k + 1 => by rw [wordsT_succ, List.length_append, wordsT_len p F T G k]; simp; omega
theorem join_words (p : Int) (F T G : Nat → Int) : ∀ k, Lib.join (wordsT p F T G k) [32] = showT p F T G k
  | 0 => by simp [wordsT, restT, showT, Lib.join_one]
  | k + 1 => by
    have ih := join_words p F T G k
    simp only [wordsT, Lib.join_cons] at ih ⊢
    simp only [restT, showT, ← ih, Lib.joinTail, List.map_append, List.flatten_append]
    simp [arcT]

theorem boxed1 {w W : World} {o : Obj} (h : Below (w.alloc o).heap.size (w.alloc o) W) : Below (w.heap.size + 1) (w.alloc o) W := h.mono (by simp)

def scells (W : List (List UInt8)) : List Value := W.map txt

theorem join_any (g c : Nat) (W : List (List UInt8)) (w : World) (hc : ∀ j u, (scells W)[j]? = some u → w.cell? ⟨g, j, none⟩ = some u) (hg : g < w.heap.size) (hN : W.length ≤ 1000) (hcap : W.length ≤ c) (hlen : (Lib.join W [32]).length ≤ 1000000000000) :
    Calls Tryd.prog 20 #[.slice (some ⟨g, 0, none⟩) W.length c, .string ⟨#[32]⟩] w fun e w' => e = .returned (txt (Lib.join W [32])) ∧ Below w.heap.size w w' := by
  have e1 : (W.map fun l => (⟨l.toArray⟩ : ByteArray)).length = W.length := List.length_map _
  have e2 : (W.map fun l => (⟨l.toArray⟩ : ByteArray)).map (·.data.toList) = W := by simp [Function.comp_def]
  have h := Tryd.strings_Join g 0 c (W.map fun l => (⟨l.toArray⟩ : ByteArray)) ⟨#[32]⟩ w (fun j x hx => by
    rw [Nat.zero_add]
    refine hc j _ ?_
    simp [scells] at hx ⊢
    obtain ⟨l, hl, rfl⟩ := hx
    exact ⟨l, hl, rfl⟩) hg (by rw [e1]; omega) (by rw [e1]; exact hcap) (by rw [e2]; show (Lib.join W [32]).length ≤ _; omega)
  rw [e1, e2] at h
  exact h

theorem Tryd.infoStr : (Tryd.prog.info? 9).map (fun i => (i.zero, i.size, i.bytes)) = some (some (.string ByteArray.empty), 1, 16) := by kernel_rfl

theorem scells_one (W : List (List UInt8)) : ∀ u ∈ scells W, u.oneCell' = true := fun u hu => by
  simp [scells] at hu
  obtain ⟨_, _, rfl⟩ := hu
  rfl

/-- At a step of a region that draws its order: three words more, where there is room. -/
theorem step_append_words {ops : Array Oper} {o : Oper} {a : Act} {w : World} {K : Act → World → Prop} {Q : Exit → Act → World → Prop} {E : Prop} (hgd : o.guard = none) (x y : Operand)
    (ho : o.op = .call { callee := .builtin .append, args := #[x, y], argTypes := #[40, 40] }) (base g cap : Nat) (W V : List (List UInt8)) (ad : Addr) (c : Nat)
    (hx : a.eval x = .slice (some ⟨g, 0, none⟩) W.length cap) (hy : a.eval y = .slice (some ad) V.length c) (hown : w.ownsRow base 9 1 (.slice (some ⟨g, 0, none⟩) W.length cap) W.length (scells W))
    (hc : ∀ j u, (scells V)[j]? = some u → w.cell? (ad.add j) = some u) (hroom : W.length + V.length ≤ cap)
    (hK : ∀ w', w'.ownsRow base 9 1 (.slice (some ⟨g, 0, none⟩) (W ++ V).length cap) (W ++ V).length (scells (W ++ V)) → w.grownBy w' (some g) → K (a.put o.dst (.slice (some ⟨g, 0, none⟩) (W ++ V).length cap)) w') :
    if Region.wanted o (yielded ops a.tmps) = true then Oper.wp Tryd.prog o a w K Q else E := by
  have hw : Region.wanted o (yielded ops a.tmps) = true := by simp [Region.wanted, hgd]
  rw [if_pos hw]
  obtain ⟨i, hi, hz0, hz1, hz2⟩ := info_parts Tryd.infoStr
  obtain ⟨w', hr, h1, h2⟩ := run_append_fits (P := Tryd.prog) w base 40 o.type 9 i 1 Tryd.underlying40 hi hz1 g W.length cap (scells W) hown ad V.length c (scells V) (by simp [scells]) hc (scells_one V) hroom
  have e1 : W.length + V.length = (W ++ V).length := by simp
  have e2 : scells W ++ scells V = scells (W ++ V) := by simp [scells]
  rw [e1] at hr h1
  rw [e2] at h1
  unfold Oper.wp execOp
  simp only [ho, resolve, invoke, builtin, Sem.run_bind, Sem.run_pure, Result.andThen_ok, List.map_toArray, List.map_cons, List.map_nil, hx, hy, hr]
  exact hK w' h1 h2

theorem news3 (w : World) (a b c : List UInt8) : ∀ j u, (scells [a, b, c])[j]? = some u → (w.alloc (.cells #[txt a, txt b, txt c] 9)).cell? ((⟨w.heap.size, 0, none⟩ : Addr).add j) = some u := fun j u hu => by
  match j, hu with
  | 0, hu => simp [scells] at hu; subst hu; simp [Addr.add, go_sem]
  | 1, hu => simp [scells] at hu; subst hu; simp [Addr.add, go_sem]
  | 2, hu => simp [scells] at hu; subst hu; simp [Addr.add, go_sem]

/-- The box of an argument of two cells, in a later world. -/
theorem boxd {w W : World} {a0 a1 : Value} {t : TypeId} (h : Below (w.heap.size + 1) (w.alloc (.cells #[a0, a1] t)) W) :
    W.cell? ⟨w.heap.size, 0, none⟩ = some a0 ∧ W.cell? ⟨w.heap.size, 1, none⟩ = some a1 ∧ w.heap.size < W.heap.size := by
  refine ⟨by rw [h.cell (by simp)]; simp [go_sem], by rw [h.cell (by simp)]; simp [go_sem], by have := h.size; simp at this; omega⟩

theorem owns_below {w w' : World} {base e size n : Nat} {v : Value} {xs : List Value} (h : w.ownsRow base e size v n xs) (hb : Below w.heap.size w w') : w'.ownsRow base e size v n xs :=
  h.kept (row := none) ⟨hb.os, hb.tape, hb.output, hb.size, fun k hk _ => hb.block k hk⟩ (by cases v.ownBlock <;> simp)

theorem owns_lt {w : World} {base e n cap g : Nat} {xs : List Value} (h : w.ownsRow base e 1 (.slice (some ⟨g, 0, none⟩) n cap) n xs) : g < w.heap.size := by
  obtain ⟨_, h0 | ⟨g', cap', cur, hv, _, hh, _⟩⟩ := h
  · simp at h0
  · simp at hv
    obtain ⟨rfl, rfl⟩ := hv
    exact (Array.getElem?_eq_some_iff.1 hh).1
theorem owns_cells {w : World} {base e n cap g : Nat} {xs : List Value} (h : w.ownsRow base e 1 (.slice (some ⟨g, 0, none⟩) n cap) n xs) : ∀ j u, xs[j]? = some u → w.cell? ⟨g, j, none⟩ = some u := fun j u hu => by
  have hl := h.1
  have hj : j < xs.length := (List.getElem?_eq_some_iff.1 hu).1
  rw [World.ownsRow.cellAt h j (by omega)]
  exact hu

set_option maxRecDepth 20000 in
set_option maxHeartbeats 2000000 in
theorem implShow_yes (p : Int) (ao : Option Addr) (n cap : Nat) (F T G : Nat → Int) (hn : n ≤ 100) (hp : 0 ≤ p ∧ p ≤ 1000000) (hs : Small n F T G) (h : graphB p n F T G = true) (w : World) (ht : Tab w) (hr : Row w ao n F T G) :
    Calls Tryd.prog 8 #[.agg #[.int .i64 p, .slice ao n cap]] w fun e w' => e = .returned (txt (showT p F T G n)) ∧ Below w.heap.size w w' := by
  have HP : Hid (0 ≤ p ∧ p ≤ 1000000) := hp
  have HS : Hid (Small n F T G) := hs
  obtain ⟨hp0, hp1⟩ := hp
  clear hs
  obtain ⟨i0, hi, hz0, hz1, hz2⟩ := info_parts Tryd.infoStr
  go_enter Tryd.func8, Tryd.ntmps8
  go_wp2_with (first
    | (go_at_call 18; refine (implGraphOk_any p ao n cap F T G (by omega) _ (hr.alloc _)).mono ?_; rintro e w1 ⟨rfl, hb1⟩; have hA := boxed1 hb1; have hsz1 : w.heap.size + 1 ≤ w1.heap.size := by (have := hb1.size; simp at this; omega))
    | (at_make; refine wpList_make_own _ rfl _ _ 40 rfl (w.heap.size + 1) 9 i0 _ 1 Tryd.underlying40 hi hz0 hz1 .i64 .i64 301 301 rfl rfl (by omega) (by rw [hz2]; omega) (by unfold maxLen; omega) (by have := hA.size; simp at this; omega) ?_; intro w2 hown2 hgr2; replace hA := hA.grown hgr2 (by have := hA.size; simp at this; omega) (fun k hk => by cases hk); obtain ⟨x0, x1, xs⟩ := boxd hA)
    | (go_at_call 19; refine (showNumber_any p hp0 (by omega) _ (ht.below (unbox hA (by omega)) (Nat.le_refl _))).mono ?_; rintro e w3 ⟨rfl, hb3⟩; replace hA := below_next hA (by simp) hb3; have hown3 := owns_below hown2 hb3; clear x0 x1 xs; obtain ⟨x0, x1, xs⟩ := boxd hA)
    | (at_builtin; refine wpList_append_fits _ rfl _ _ 40 rfl (w.heap.size + 1) 9 i0 1 Tryd.underlying40 hi hz1 w1.heap.size 0 301 [] rfl (hown3.alloc _) ⟨w3.heap.size, 0, none⟩ 1 1 [txt (dec p)] rfl rfl (cell_one_new _ _ _) (scells_one [dec p]) (by omega) ?_; intro w4 hown4 hgr4; replace hA := (hA.alloc (by omega) (.cells #[txt (dec p)] 9)).grown hgr4 (by simp; omega) (fun k hk => by simp at hk; omega); clear x0 x1; obtain ⟨x0, x1, xs4⟩ := boxd hA))
  clear x0 x1 hb1 hgr2 hgr4 hown2 hown3
  go_loopw [3, 19] (fun v x wr => ∃ k : Nat, k ≤ n ∧ x = .int .i64 k ∧ v = .slice (some ⟨w1.heap.size, 0, none⟩) (wordsT p F T G k).length 301 ∧ wr.ownsRow (w.heap.size + 1) 9 1 (.slice (some ⟨w1.heap.size, 0, none⟩) (wordsT p F T G k).length 301) (wordsT p F T G k).length (scells (wordsT p F T G k)) ∧ Below (w.heap.size + 1) (w.alloc (.cells #[.int .i64 p, .slice ao n cap] 29)) wr) (fun _ x _ => n - (intOf x).toNat)
  case atStart => exact ⟨0, Nat.zero_le _, rfl, rfl, hown4, hA⟩
  case round =>
    clear hown4 hA
    obtain ⟨k, hk, rfl, rfl, hown, hbel⟩ := hrel
    have hgl := owns_lt hown
    have hwl : (wordsT p F T G k).length ≤ 1 + 3 * k := Nat.le_of_eq (wordsT_len p F T G k)
    obtain ⟨x0, x1, xs'⟩ := boxd hbel
    by_cases hlt : k < n
    rotate_left
    · have e : k = n := by omega
      subst e
      have hlen : (Lib.join (wordsT p F T G k) [32]).length ≤ 1000000000000 := by
        rw [join_words]
        have := showT_len HP.out k HS.out
        omega
      go_wp2_with (go_at_call 20; refine (join_any w1.heap.size 301 (wordsT p F T G k) _ (owns_cells hown) hgl (by omega) (by omega) hlen).mono ?_; rintro e w5 ⟨rfl, hb5⟩)
      go_ret
      exact ⟨congrArg (fun x => Ending.returned (txt x)) (join_words p F T G k), unbox (below_next hbel (by simp) hb5) (by omega)⟩
    obtain ⟨b, o, hao, c0, c1, c2⟩ := ((hr.alloc _).below hbel (by simp)) k hlt
    subst hao
    obtain ⟨⟨f0, f1⟩, ⟨t0, t1⟩, ⟨v0, v1⟩⟩ := HS.out k hlt
    go_wp2
    have hA := (hbel.alloc (by omega) (.cells #[.int .i64 (F k), .int .i64 (T k), .int .i64 (G k)] 43)).drew
    replace hown := (hown.alloc (.cells #[.int .i64 (F k), .int .i64 (T k), .int .i64 (G k)] 43)).drew
    go_region_held3 (fun w' => w'.cell? ⟨wr.heap.size, 0, none⟩ = some (.int .i64 (F k)) ∧ w'.cell? ⟨wr.heap.size, 1, none⟩ = some (.int .i64 (T k)) ∧ w'.cell? ⟨wr.heap.size, 2, none⟩ = some (.int .i64 (G k)))
      (first | (go_split_ands; refine ⟨?_, ?_, ?_⟩ <;> exact keep_cell ‹_› (Nat.le_refl _) (by assumption)) | (go_split_ands; refine ⟨?_, ?_, ?_⟩ <;> exact hgr6.cell (by assumption) (by simp; omega)) | go_keep)
      (first | (go_at_call_of 19 (Value.int IntKind.i64 (F k)); refine (showNumber_any (F k) f0 (by omega) _ (ht.below (unbox hA (by omega)) (Nat.le_refl _))).mono ?_; rintro e w5 ⟨rfl, hb5⟩; replace hA := below_next hA (by simp) hb5; replace hown := owns_below hown hb5) | (go_at_call_of 19 (Value.int IntKind.i64 (T k)); refine (showNumber_any (T k) t0 (by omega) _ (ht.below (unbox hA (by omega)) (Nat.le_refl _))).mono ?_; rintro e w5 ⟨rfl, hb5⟩; replace hA := below_next hA (by simp) hb5; replace hown := owns_below hown hb5) | (go_at_call_of 19 (Value.int IntKind.i64 (G k)); refine (showNumber_any (G k) v0 (by omega) _ (ht.below (unbox hA (by omega)) (Nat.le_refl _))).mono ?_; rintro e w5 ⟨rfl, hb5⟩; replace hA := below_next hA (by simp) hb5; replace hown := owns_below hown hb5) | (refine step_append_words ?_ (.tmp 23) (.tmp 33) ?_ (w.heap.size + 1) w1.heap.size 301 (wordsT p F T G k) [dec (F k), dec (T k), dec (G k)] ⟨w5.heap.size, 0, none⟩ 3 ?_ ?_ (hown.alloc _) ?_ ?_ ?_; rfl; rfl; rfl; rfl; exact news3 _ _ _ _; (simp; omega); intro w6 hown6 hgr6))
    go_wp2
    go_roundw
    case rel => exact ⟨k + 1, by omega, by go_num, by rw [wordsT_succ]; simp, by rw [wordsT_succ]; exact hown6, (hA.alloc (by have := hA.size; simp at this; omega) _).grown hgr6 (by have := hA.size; simp at this ⊢; omega) (fun g hg => by simp at hg; omega)⟩
    case measure => simp [intOf]; omega

theorem implShow_any (p : Int) (ao : Option Addr) (n cap : Nat) (F T G : Nat → Int) (hn : n ≤ 1048576) (w : World) (ht : Tab w) (hr : Row w ao n F T G) :
    Calls Tryd.prog 8 #[.agg #[.int .i64 p, .slice ao n cap]] w fun e w' => e = .returned (txt (showG p n F T G)) ∧ Below w.heap.size w w' := by
  rcases Bool.eq_false_or_eq_true (graphB p n F T G) with h | h
  · obtain ⟨h1, h2, h3⟩ := small_of h
    have e : showG p n F T G = showT p F T G n := by simp [showG, h]
    rw [e]
    exact implShow_yes p ao n cap F T G h1 h2 h3 h w ht hr
  · have e : showG p n F T G = [] := by simp [showG, h]
    rw [e]
    go_enter Tryd.func8, Tryd.ntmps8
    go_wp2_with (first | (go_at_call 18; refine (implGraphOk_any p ao n cap F T G hn _ (hr.alloc _)).mono ?_; rintro e w1 ⟨rfl, hb1⟩))
    go_ret
    exact ⟨rfl, unbox hb1 (by simp)⟩

end Go.Proofs.YtapfheagchihhaeDoor
