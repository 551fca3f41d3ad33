/-
  A command as text: the program makes the document's. For every command of at most 2^20 arcs.
-/
import Derived.Test.YtmnohgcjdhokdajDoorShowC
import Derived.Test.YtmnohgcjdhokdajDoorShowJ
import Derived.Test.YtmnohgcjdhokdajDoorCmd
import Derived.Test.YtmnohgcjdhokdajDoorHas
import Derived.Deep.AppendLies
import Derived.Deep.RegionLaw
set_option linter.unusedVariables false
set_option linter.unusedSimpArgs false
namespace Go.Proofs.YtmnohgcjdhokdajDoor
open Go.RowKit Go.Maps
attribute [local go_sem ↓] Go.wp_at_zero Go.wp_at_succ

/-- The words of a text. -/
def wordsW (F T G : Nat → Int) : Nat → List (List UInt8)
  | 0 => [txWeigh]
  | k + 1 => wordsW F T G k ++ [dec (F k), dec (T k), dec (G k)]
theorem wordsW_len (F T G : Nat → Int) : ∀ k, (wordsW F T G k).length = 1 + 3 * k
  | 0 => rfl
  | k + 1 => by rw [wordsW, List.length_append, wordsW_len F T G k]; simp; omega
theorem wordsW_cons (F T G : Nat → Int) : ∀ k, ∃ r, wordsW F T G k = txWeigh :: r
  | 0 => ⟨[], rfl⟩
  | k + 1 => by
    obtain ⟨r, e⟩ := wordsW_cons F T G k
    exact ⟨r ++ [dec (F k), dec (T k), dec (G k)], by rw [wordsW, e]; rfl⟩
theorem join_more (x : List UInt8) (r s : List (List UInt8)) : Lib.join (x :: (r ++ s)) [32] = Lib.join (x :: r) [32] ++ (s.map fun l => 32 :: l).flatten := by
  simp only [Lib.join_cons, Lib.joinTail, List.map_append, List.flatten_append]
  simp
theorem join_wordsW (F T G : Nat → Int) : ∀ k, Lib.join (wordsW F T G k) [32] = showW F T G k
  | 0 => by simp [wordsW, showW, Lib.join_one]
  | k + 1 => by
    have ih := join_wordsW F T G k
    obtain ⟨r, e⟩ := wordsW_cons F T G k
    rw [wordsW, showW, ← ih, e, List.cons_append, join_more]
    simp [arcT]
theorem join_ask (a b : Int) : Lib.join [txAsk, dec a, dec b] [32] = showA a b := by
  simp [Lib.join_cons, Lib.joinTail, showA]
/-- Words of the call's own. -/
def OwnW (w : World) (base g cap : Nat) (W : List (List UInt8)) : Prop := w.ownsRow base 9 1 (.slice (some ⟨g, 0, none⟩) W.length cap) W.length (scells W)
theorem OwnW.next {w w' : World} {base g cap : Nat} {W : List (List UInt8)} (h : OwnW w base g cap W) (hb : Below w.heap.size w w') : OwnW w' base g cap W := owns_below h hb
theorem OwnW.lt {w : World} {base g cap : Nat} {W : List (List UInt8)} (h : OwnW w base g cap W) : g < w.heap.size := owns_lt h
theorem OwnW.base {w : World} {base g cap : Nat} {W : List (List UInt8)} (h : OwnW w base g cap W) : base ≤ g := (World.ownsRow.lt h g rfl).1
theorem OwnW.room {w : World} {base g cap : Nat} {W : List (List UInt8)} (h : OwnW w base g cap W) : W.length ≤ cap := by
  obtain ⟨hl, h0 | ⟨g', cap', cur, hv, hb, hh, h1, h2, h3, h4⟩⟩ := h
  · simp at h0
  · simp at hv
    omega
theorem ownw_one (w : World) {base : Nat} (hb : base ≤ w.heap.size) (x : List UInt8) : OwnW (w.alloc (.cells #[txt x] 9)) base w.heap.size 1 [x] := by
  have := World.ownsRow_lit (base := base) (e := 9) (size := 1) w #[txt x] 1 hb (by unfold maxLen; omega) (by simp)
  simpa [OwnW, scells] using this
/-- At a step of a region that draws its order: three words more. -/
theorem step_append_three {ops : Array Oper} {o : Oper} {a : Act} {w : World} {K : Act → World → Prop} {Q : Exit → Act → World → Prop} {E : Prop} (hgd : o.guard = none) (s x : Operand)
    (ho : o.op = .call { callee := .builtin .append, args := #[s, x], argTypes := #[36, 36] }) (base g cap : Nat) (W : List (List UInt8)) (hs : a.eval s = .slice (some ⟨g, 0, none⟩) W.length cap) (hown : OwnW w base g cap W) (B : Nat) (x1 x2 x3 : List UInt8) (hx : a.eval x = .slice (some ⟨B, 0, none⟩) 3 3)
    (hB : ∀ j u, (scells [x1, x2, x3])[j]? = some u → w.cell? ((⟨B, 0, none⟩ : Addr).add j) = some u) (hk : W.length ≤ 1000000) (hbase : base ≤ w.heap.size)
    (h : ∀ g' gc' w', OwnW w' base g' gc' (W ++ [x1, x2, x3]) → w.grownBy w' (some g) → K (a.put o.dst (.slice (some ⟨g', 0, none⟩) (W ++ [x1, x2, x3]).length gc')) w') :
    if Region.wanted o (yielded ops a.tmps) = true then Oper.wp Tryd.prog o a w K Q else E := by
  have hw : Region.wanted o (yielded ops a.tmps) = true := by simp [Region.wanted, hgd]
  rw [if_pos hw]
  obtain ⟨i0, hi0, hz0, hz1, hz2⟩ := info_parts Tryd.infoStr
  refine wp_append_lies w s x 36 ho base 9 i0 _ 1 16 Tryd.underlying36 hi0 hz0 hz1 hz2 rfl (by omega) _ W.length (scells W) hs hown ⟨B, 0, none⟩ 3 3 (scells [x1, x2, x3]) hx rfl hB (scells_one _) (by omega) (by unfold maxLen; omega) (by omega) hbase w.heap.size rfl ?_
  intro g' gc' w' hown' hgrow _ _
  have e1 : W.length + 3 = (W ++ [x1, x2, x3]).length := by simp
  have e2 : scells W ++ scells [x1, x2, x3] = scells (W ++ [x1, x2, x3]) := by simp [scells]
  rw [e2] at hown'
  have := h g' gc' w' (by unfold OwnW; rw [← e1]; exact hown') hgrow
  rw [← e1] at this
  exact this

theorem implShowC_none (ao : Option Addr) (n cap : Nat) (F T G : Nat → Int) (a b : Int) (hn : n ≤ 1048576) (hc : cmdB 1 n F T G a b = true) (w : World) (hr : Row w ao n F T G) :
    Calls Tryd.prog 7 #[.agg #[.int .i64 1, .slice ao n cap, .int .i64 a, .int .i64 b]] w fun e w' => e = .returned (txt txNone) ∧ Below w.heap.size w w' := by
  have hA := (Below.refl w.heap.size w).alloc (Nat.le_refl _) (.cells #[.int .i64 1, .slice ao n cap, .int .i64 a, .int .i64 b] 29)
  have HCO : Hid (∀ W, Row W ao n F T G → Calls Tryd.prog 13 #[.agg #[.int .i64 1, .slice ao n cap, .int .i64 a, .int .i64 b]] W fun e w' => e = .returned (.bool (cmdB 1 n F T G a b)) ∧ Below W.heap.size W w') := fun W h => implCommandOk_any 1 ao n cap F T G a b hn W h
  have x0 : (w.alloc (.cells #[.int .i64 1, .slice ao n cap, .int .i64 a, .int .i64 b] 29)).cell? ⟨w.heap.size, 0, none⟩ = some (.int .i64 1) := by simp [go_sem]
  have x1 : (w.alloc (.cells #[.int .i64 1, .slice ao n cap, .int .i64 a, .int .i64 b] 29)).cell? ⟨w.heap.size, 1, none⟩ = some (.slice ao n cap) := by simp [go_sem]
  have x2 : (w.alloc (.cells #[.int .i64 1, .slice ao n cap, .int .i64 a, .int .i64 b] 29)).cell? ⟨w.heap.size, 2, none⟩ = some (.int .i64 a) := by simp [go_sem]
  have x3 : (w.alloc (.cells #[.int .i64 1, .slice ao n cap, .int .i64 a, .int .i64 b] 29)).cell? ⟨w.heap.size, 3, none⟩ = some (.int .i64 b) := by simp [go_sem]
  have hsz : w.heap.size < (w.alloc (.cells #[.int .i64 1, .slice ao n cap, .int .i64 a, .int .i64 b] 29)).heap.size := by simp
  have hrA := hr.below hA (Nat.le_refl _)
  go_enter Tryd.func7, Tryd.ntmps7
  go_wp2_with fail
  generalize (w.alloc (.cells #[.int .i64 1, .slice ao n cap, .int .i64 a, .int .i64 b] 29)) = W at hA x0 x1 x2 x3 hsz hrA ⊢
  refine (HCO.out _ hrA).mono ?_
  rintro e w1 ⟨rfl, hb1⟩
  rw [hc]
  replace hA := below_next hA (Nat.le_refl _) hb1
  replace hrA := hrA.below hb1 (Nat.le_refl _)
  replace x0 := keep_cell hb1 (Nat.le_refl _) x0
  replace x1 := keep_cell hb1 (Nat.le_refl _) x1
  replace x2 := keep_cell hb1 (Nat.le_refl _) x2
  replace x3 := keep_cell hb1 (Nat.le_refl _) x3
  have hsz1 : w.heap.size < w1.heap.size := lt_of_cell x0
  clear hb1 HCO
  go_wp2
  go_ret
  exact ⟨rfl, hA⟩
theorem implShowC_no (K : Int) (ao : Option Addr) (n cap : Nat) (F T G : Nat → Int) (a b : Int) (hn : n ≤ 1048576) (hc : cmdB K n F T G a b = false) (w : World) (hr : Row w ao n F T G) :
    Calls Tryd.prog 7 #[.agg #[.int .i64 K, .slice ao n cap, .int .i64 a, .int .i64 b]] w fun e w' => e = .returned (txt []) ∧ Below w.heap.size w w' := by
  have hA := (Below.refl w.heap.size w).alloc (Nat.le_refl _) (.cells #[.int .i64 K, .slice ao n cap, .int .i64 a, .int .i64 b] 29)
  have HCO : Hid (∀ W, Row W ao n F T G → Calls Tryd.prog 13 #[.agg #[.int .i64 K, .slice ao n cap, .int .i64 a, .int .i64 b]] W fun e w' => e = .returned (.bool (cmdB K n F T G a b)) ∧ Below W.heap.size W w') := fun W h => implCommandOk_any K ao n cap F T G a b hn W h
  have x0 : (w.alloc (.cells #[.int .i64 K, .slice ao n cap, .int .i64 a, .int .i64 b] 29)).cell? ⟨w.heap.size, 0, none⟩ = some (.int .i64 K) := by simp [go_sem]
  have x1 : (w.alloc (.cells #[.int .i64 K, .slice ao n cap, .int .i64 a, .int .i64 b] 29)).cell? ⟨w.heap.size, 1, none⟩ = some (.slice ao n cap) := by simp [go_sem]
  have x2 : (w.alloc (.cells #[.int .i64 K, .slice ao n cap, .int .i64 a, .int .i64 b] 29)).cell? ⟨w.heap.size, 2, none⟩ = some (.int .i64 a) := by simp [go_sem]
  have x3 : (w.alloc (.cells #[.int .i64 K, .slice ao n cap, .int .i64 a, .int .i64 b] 29)).cell? ⟨w.heap.size, 3, none⟩ = some (.int .i64 b) := by simp [go_sem]
  have hsz : w.heap.size < (w.alloc (.cells #[.int .i64 K, .slice ao n cap, .int .i64 a, .int .i64 b] 29)).heap.size := by simp
  have hrA := hr.below hA (Nat.le_refl _)
  go_enter Tryd.func7, Tryd.ntmps7
  go_wp2_with fail
  generalize (w.alloc (.cells #[.int .i64 K, .slice ao n cap, .int .i64 a, .int .i64 b] 29)) = W at hA x0 x1 x2 x3 hsz hrA ⊢
  refine (HCO.out _ hrA).mono ?_
  rintro e w1 ⟨rfl, hb1⟩
  rw [hc]
  replace hA := below_next hA (Nat.le_refl _) hb1
  replace hrA := hrA.below hb1 (Nat.le_refl _)
  replace x0 := keep_cell hb1 (Nat.le_refl _) x0
  replace x1 := keep_cell hb1 (Nat.le_refl _) x1
  replace x2 := keep_cell hb1 (Nat.le_refl _) x2
  replace x3 := keep_cell hb1 (Nat.le_refl _) x3
  have hsz1 : w.heap.size < w1.heap.size := lt_of_cell x0
  clear hb1 HCO
  go_wp2
  go_ret
  exact ⟨rfl, hA⟩

set_option maxRecDepth 20000 in
set_option maxHeartbeats 4000000 in
theorem implShowC_ask (ao : Option Addr) (n cap : Nat) (F T G : Nat → Int) (a b : Int) (hn : n ≤ 1048576) (ha : 0 ≤ a ∧ a ≤ 1000000) (hb : 0 ≤ b ∧ b ≤ 1000000) (hc : cmdB 3 n F T G a b = true) (w : World) (ht : Tab w) (hr : Row w ao n F T G) :
    Calls Tryd.prog 7 #[.agg #[.int .i64 3, .slice ao n cap, .int .i64 a, .int .i64 b]] w fun e w' => e = .returned (txt (showA a b)) ∧ Below w.heap.size w w' := by
  have hal := dec_len ha.1 ha.2
  have hbl := dec_len hb.1 hb.2
  have hjl : (Lib.join [txAsk, dec a, dec b] [32]).length ≤ 1000000000000 := by
    rw [join_ask]
    simp [showA, txAsk]
    omega
  have hA := (Below.refl w.heap.size w).alloc (Nat.le_refl _) (.cells #[.int .i64 3, .slice ao n cap, .int .i64 a, .int .i64 b] 29)
  have HCO : Hid (∀ W, Row W ao n F T G → Calls Tryd.prog 13 #[.agg #[.int .i64 3, .slice ao n cap, .int .i64 a, .int .i64 b]] W fun e w' => e = .returned (.bool (cmdB 3 n F T G a b)) ∧ Below W.heap.size W w') := fun W h => implCommandOk_any 3 ao n cap F T G a b hn W h
  have x0 : (w.alloc (.cells #[.int .i64 3, .slice ao n cap, .int .i64 a, .int .i64 b] 29)).cell? ⟨w.heap.size, 0, none⟩ = some (.int .i64 3) := by simp [go_sem]
  have x1 : (w.alloc (.cells #[.int .i64 3, .slice ao n cap, .int .i64 a, .int .i64 b] 29)).cell? ⟨w.heap.size, 1, none⟩ = some (.slice ao n cap) := by simp [go_sem]
  have x2 : (w.alloc (.cells #[.int .i64 3, .slice ao n cap, .int .i64 a, .int .i64 b] 29)).cell? ⟨w.heap.size, 2, none⟩ = some (.int .i64 a) := by simp [go_sem]
  have x3 : (w.alloc (.cells #[.int .i64 3, .slice ao n cap, .int .i64 a, .int .i64 b] 29)).cell? ⟨w.heap.size, 3, none⟩ = some (.int .i64 b) := by simp [go_sem]
  have hsz : w.heap.size < (w.alloc (.cells #[.int .i64 3, .slice ao n cap, .int .i64 a, .int .i64 b] 29)).heap.size := by simp
  have hrA := hr.below hA (Nat.le_refl _)
  have htA := ht.below hA (Nat.le_refl _)
  go_enter Tryd.func7, Tryd.ntmps7
  go_wp2_with fail
  generalize (w.alloc (.cells #[.int .i64 3, .slice ao n cap, .int .i64 a, .int .i64 b] 29)) = W at hA x0 x1 x2 x3 hsz hrA htA ⊢
  refine (HCO.out _ hrA).mono ?_
  rintro e w1 ⟨rfl, hb1⟩
  rw [hc]
  replace hA := below_next hA (Nat.le_refl _) hb1
  replace hrA := hrA.below hb1 (Nat.le_refl _)
  replace htA := htA.below hb1 (Nat.le_refl _)
  replace x0 := keep_cell hb1 (Nat.le_refl _) x0
  replace x1 := keep_cell hb1 (Nat.le_refl _) x1
  replace x2 := keep_cell hb1 (Nat.le_refl _) x2
  replace x3 := keep_cell hb1 (Nat.le_refl _) x3
  have hsz1 : w.heap.size < w1.heap.size := lt_of_cell x0
  clear hb1 HCO
  go_wp2_with fail
  replace hA := hA.drew
  replace htA := htA.below (Below.refl w1.heap.size w1).drew (Nat.le_refl _)
  clear x0 x1
  go_region_held3 (fun w' => w'.cell? ⟨w.heap.size, 2, none⟩ = some (.int .i64 a) ∧ w'.cell? ⟨w.heap.size, 3, none⟩ = some (.int .i64 b))
    (first | (go_split_ands; refine ⟨?_, ?_⟩ <;> exact keep_cell hb4 (Nat.le_refl _) (by assumption)) | (go_split_ands; refine ⟨?_, ?_⟩ <;> exact keep_cell hb3 (Nat.le_refl _) (by assumption)) | (go_split_ands; refine ⟨?_, ?_⟩ <;> exact keep_cell hb2 (Nat.le_refl _) (by assumption)) | go_keep)
    (first | (go_at_call_of 14 (Value.int IntKind.i64 a); refine (showNumber_any a ha.1 (by omega) _ htA).mono ?_; rintro e w2 ⟨rfl, hb2⟩; replace hA := below_next hA (Nat.le_refl _) hb2; replace htA := htA.below hb2 (Nat.le_refl _)) | (go_at_call_of 14 (Value.int IntKind.i64 b); refine (showNumber_any b hb.1 (by omega) _ htA).mono ?_; rintro e w3 ⟨rfl, hb3⟩; replace hA := below_next hA (Nat.le_refl _) hb3; replace htA := htA.below hb3 (Nat.le_refl _)) | (go_at_call 15; refine (join_any w3.heap.size 3 [txAsk, dec a, dec b] _ (fun j u hu => by have := news3 w3 txAsk (dec a) (dec b) j u hu; rw [Addr.add_mid, Nat.zero_add] at this; exact this) (by simp) (by simp) (by simp) hjl).mono ?_; rintro e w4 ⟨rfl, hb4⟩))
  all_goals
    go_wp2
    go_ret
    exact ⟨congrArg (fun x => Ending.returned (txt x)) (join_ask a b), below_next (hA.alloc hA.size _) (Nat.le_refl _) hb4⟩

set_option maxRecDepth 20000 in
set_option maxHeartbeats 4000000 in
theorem implShowC_weigh (ao : Option Addr) (n cap : Nat) (F T G : Nat → Int) (a b : Int) (hn : n ≤ 1048576) (hn9 : n ≤ 100) (hs : Small n F T G) (hc : cmdB 2 n F T G a b = true) (w : World) (ht : Tab w) (hr : Row w ao n F T G) :
    Calls Tryd.prog 7 #[.agg #[.int .i64 2, .slice ao n cap, .int .i64 a, .int .i64 b]] w fun e w' => e = .returned (txt (showW F T G n)) ∧ Below w.heap.size w w' := by
  have HS : Hid (Small n F T G) := hs
  clear hs
  have hA := (Below.refl w.heap.size w).alloc (Nat.le_refl _) (.cells #[.int .i64 2, .slice ao n cap, .int .i64 a, .int .i64 b] 29)
  have HCO : Hid (∀ W, Row W ao n F T G → Calls Tryd.prog 13 #[.agg #[.int .i64 2, .slice ao n cap, .int .i64 a, .int .i64 b]] W fun e w' => e = .returned (.bool (cmdB 2 n F T G a b)) ∧ Below W.heap.size W w') := fun W h => implCommandOk_any 2 ao n cap F T G a b hn W h
  have x0 : (w.alloc (.cells #[.int .i64 2, .slice ao n cap, .int .i64 a, .int .i64 b] 29)).cell? ⟨w.heap.size, 0, none⟩ = some (.int .i64 2) := by simp [go_sem]
  have x1 : (w.alloc (.cells #[.int .i64 2, .slice ao n cap, .int .i64 a, .int .i64 b] 29)).cell? ⟨w.heap.size, 1, none⟩ = some (.slice ao n cap) := by simp [go_sem]
  have x2 : (w.alloc (.cells #[.int .i64 2, .slice ao n cap, .int .i64 a, .int .i64 b] 29)).cell? ⟨w.heap.size, 2, none⟩ = some (.int .i64 a) := by simp [go_sem]
  have x3 : (w.alloc (.cells #[.int .i64 2, .slice ao n cap, .int .i64 a, .int .i64 b] 29)).cell? ⟨w.heap.size, 3, none⟩ = some (.int .i64 b) := by simp [go_sem]
  have hsz : w.heap.size < (w.alloc (.cells #[.int .i64 2, .slice ao n cap, .int .i64 a, .int .i64 b] 29)).heap.size := by simp
  have hrA := hr.below hA (Nat.le_refl _)
  have htA := ht.below hA (Nat.le_refl _)
  go_enter Tryd.func7, Tryd.ntmps7
  go_wp2_with fail
  generalize (w.alloc (.cells #[.int .i64 2, .slice ao n cap, .int .i64 a, .int .i64 b] 29)) = W at hA x0 x1 x2 x3 hsz hrA htA ⊢
  refine (HCO.out _ hrA).mono ?_
  rintro e w1 ⟨rfl, hb1⟩
  rw [hc]
  replace hA := below_next hA (Nat.le_refl _) hb1
  replace hrA := hrA.below hb1 (Nat.le_refl _)
  replace htA := htA.below hb1 (Nat.le_refl _)
  replace x0 := keep_cell hb1 (Nat.le_refl _) x0
  replace x1 := keep_cell hb1 (Nat.le_refl _) x1
  replace x2 := keep_cell hb1 (Nat.le_refl _) x2
  replace x3 := keep_cell hb1 (Nat.le_refl _) x3
  have hsz1 : w.heap.size < w1.heap.size := lt_of_cell x0
  clear hb1 HCO
  have hown0 := ownw_one w1 (base := w1.heap.size) (Nat.le_refl _) txWeigh
  have hA0 := hA.alloc hA.size (.cells #[txt txWeigh] 9)
  have hb0 := (Below.refl w1.heap.size w1).alloc (Nat.le_refl _) (.cells #[txt txWeigh] 9)
  go_wp2
  clear x0 x2 x3
  go_loopw [3, 17] (fun v x wr => ∃ k g c : Nat, k ≤ n ∧ x = .int .i64 k ∧ v = .slice (some ⟨g, 0, none⟩) (wordsW F T G k).length c ∧ OwnW wr w1.heap.size g c (wordsW F T G k) ∧ Below w1.heap.size w1 wr) (fun _ x _ => n - (intOf x).toNat)
  case atStart => exact ⟨0, w1.heap.size, 1, Nat.zero_le _, rfl, rfl, hown0, hb0⟩
  case round =>
    clear hown0 hA0 hb0
    obtain ⟨k, g, c, hk, rfl, rfl, hown, hbel⟩ := hrel
    have hgl := hown.lt
    have hgb := hown.base
    have hwl : (wordsW F T G k).length ≤ 1 + 3 * k := Nat.le_of_eq (wordsW_len F T G k)
    have hB := below_next hA (Nat.le_refl _) hbel
    by_cases hlt : k < n
    rotate_left
    · have e : k = n := by omega
      subst e
      have hlen : (Lib.join (wordsW F T G k) [32]).length ≤ 1000000000000 := by
        rw [join_wordsW]
        have := showW_len k HS.out
        omega
      have hrm := hown.room
      go_wp2_with (go_at_call 15; refine (join_any g c (wordsW F T G k) _ (owns_cells hown) hgl (by omega) hrm hlen).mono ?_; rintro e w5 ⟨rfl, hb5⟩)
      go_ret
      exact ⟨congrArg (fun x => Ending.returned (txt x)) (join_wordsW F T G k), below_next hB (Nat.le_refl _) hb5⟩
    obtain ⟨bb, o, hao, c0, c1, c2⟩ := (hrA.below hbel (Nat.le_refl _)) k hlt
    subst hao
    obtain ⟨⟨f0, f1⟩, ⟨t0, t1⟩, ⟨v0, v1⟩⟩ := HS.out k hlt
    have htB := htA.below hbel (Nat.le_refl _)
    go_wp2
    have hbD : Below w1.heap.size w1 (wr.alloc (.cells #[.int .i64 (F k), .int .i64 (T k), .int .i64 (G k)] 38)).drew := (hbel.alloc (by have := hbel.size; omega) (.cells #[.int .i64 (F k), .int .i64 (T k), .int .i64 (G k)] 38)).drew
    have hox : OwnW (wr.alloc (.cells #[.int .i64 (F k), .int .i64 (T k), .int .i64 (G k)] 38)).drew w1.heap.size g c (wordsW F T G k) := (hown.next ((Below.refl _ _).alloc (Nat.le_refl _) _)).next (Below.refl _ _).drew
    have htx : Tab (wr.alloc (.cells #[.int .i64 (F k), .int .i64 (T k), .int .i64 (G k)] 38)).drew := htA.below hbD (Nat.le_refl _)
    have hwr := hbel.size
    go_region_held3 (fun w' => w'.cell? ⟨wr.heap.size, 0, none⟩ = some (.int .i64 (F k)) ∧ w'.cell? ⟨wr.heap.size, 1, none⟩ = some (.int .i64 (T k)) ∧ w'.cell? ⟨wr.heap.size, 2, none⟩ = some (.int .i64 (G k)))
      (first | (go_split_ands; refine ⟨?_, ?_, ?_⟩ <;> exact hgr6.cell (by assumption) (by simp; omega)) | (go_split_ands; refine ⟨?_, ?_, ?_⟩ <;> exact keep_cell hb7 (Nat.le_refl _) (by assumption)) | (go_split_ands; refine ⟨?_, ?_, ?_⟩ <;> exact keep_cell hb6 (Nat.le_refl _) (by assumption)) | (go_split_ands; refine ⟨?_, ?_, ?_⟩ <;> exact keep_cell hb5 (Nat.le_refl _) (by assumption)) | go_keep)
      (first | (go_at_call_of 14 (Value.int IntKind.i64 (F k)); refine (showNumber_any (F k) f0 (by omega) _ htx).mono ?_; rintro e w5 ⟨rfl, hb5⟩; replace hbD := below_next hbD (Nat.le_refl _) hb5; replace hox := hox.next hb5; replace htx := htx.below hb5 (Nat.le_refl _)) | (go_at_call_of 14 (Value.int IntKind.i64 (T k)); refine (showNumber_any (T k) t0 (by omega) _ htx).mono ?_; rintro e w6 ⟨rfl, hb6⟩; replace hbD := below_next hbD (Nat.le_refl _) hb6; replace hox := hox.next hb6; replace htx := htx.below hb6 (Nat.le_refl _)) | (go_at_call_of 14 (Value.int IntKind.i64 (G k)); refine (showNumber_any (G k) v0 (by omega) _ htx).mono ?_; rintro e w7 ⟨rfl, hb7⟩; replace hbD := below_next hbD (Nat.le_refl _) hb7; replace hox := hox.next hb7; replace htx := htx.below hb7 (Nat.le_refl _)) | (refine step_append_three ?_ (.tmp 21) (.tmp 31) ?_ w1.heap.size g c (wordsW F T G k) ?_ (hox.next ((Below.refl _ _).alloc (Nat.le_refl _) _)) w7.heap.size (dec (F k)) (dec (T k)) (dec (G k)) ?_ (news3 w7 (dec (F k)) (dec (T k)) (dec (G k))) (by omega) (by have := hbD.size; simp; omega) ?_; rfl; rfl; rfl; rfl; intro g' gc' w8 hown8 hgr6))
    have hbE := (hbD.alloc (o := .cells #[txt (dec (F k)), txt (dec (T k)), txt (dec (G k))] 9) hbD.size).grown hgr6 (by have := hbD.size; simp; omega) (fun j e => by cases e; exact hgb)
    go_wp2
    go_roundw
    case rel => exact ⟨k + 1, g', gc', by omega, by go_num, by simp [wordsW], hown8, hbE⟩
    case measure => simp [intOf]; omega

theorem implShowC_any (K : Int) (ao : Option Addr) (n cap : Nat) (F T G : Nat → Int) (a b : Int) (hn : n ≤ 1048576) (w : World) (ht : Tab w) (hr : Row w ao n F T G) :
    Calls Tryd.prog 7 #[.agg #[.int .i64 K, .slice ao n cap, .int .i64 a, .int .i64 b]] w fun e w' => e = .returned (txt (showC K n F T G a b)) ∧ Below w.heap.size w w' := by
  unfold showC
  cases hc : cmdB K n F T G a b
  · exact implShowC_no K ao n cap F T G a b hn hc w hr
  rw [if_pos rfl]
  by_cases k1 : K = 1
  · subst k1
    rw [if_pos rfl]
    exact implShowC_none ao n cap F T G a b hn hc w hr
  rw [if_neg k1]
  by_cases k3 : K = 3
  · subst k3
    rw [if_pos rfl]
    have h := hc
    simp [cmdB, inB_iff] at h
    exact implShowC_ask ao n cap F T G a b hn (by omega) (by omega) hc w ht hr
  rw [if_neg k3]
  by_cases k2 : K = 2
  · subst k2
    have h := hc
    simp [cmdB, batchB] at h
    exact implShowC_weigh ao n cap F T G a b hn (by omega) (batB_small h.1.2.2) hc w ht hr
  · simp [cmdB, k1, k2, k3] at hc

end Go.Proofs.YtmnohgcjdhokdajDoor
