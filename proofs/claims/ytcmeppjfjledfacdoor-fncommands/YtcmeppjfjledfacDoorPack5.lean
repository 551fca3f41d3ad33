/-
  Helpers, merged: ShowC, CmQ, ShowJ, ShowD, SumT, Draw, DrawN, DrawMap, DrawOne.
-/
import Derived.Test.YtcmeppjfjledfacDoorPack4
import Derived.Test.YtcmeppjfjledfacDoorPack1
import Derived.Test.YtcmeppjfjledfacDoorPack3
import Derived.Test.YtcmeppjfjledfacDoorPack2
import Derived.Lib.SlBytesConst
import Derived.Deep.AppendLies
import Derived.Deep.RegionLaw
import Derived.Deep.QuietTactic
import Derived.BigQuiet
/-
  A command as text: the document's text, plainly, and that the document makes just that.
-/
set_option linter.unusedVariables false
set_option linter.unusedSimpArgs false
namespace Go.Proofs.YtcmeppjfjledfacDoor
open Go.RowKit
attribute [local go_sem ↓] Go.wp_at_zero Go.wp_at_succ

def showW (F T G : Nat → Int) : Nat → List UInt8
  | 0 => txWeigh
  | k + 1 => showW F T G k ++ arcT (F k) (T k) (G k)
def showA (a b : Int) : List UInt8 := txAsk ++ (32 :: (dec a ++ (32 :: dec b)))
/-- The text of a command; empty where it is not right. -/
def showC (K : Int) (n : Nat) (F T G : Nat → Int) (a b : Int) : List UInt8 :=
  if cmdB K n F T G a b = true then (if K = 1 then txNone else if K = 3 then showA a b else showW F T G n) else []
theorem showW_len {F T G : Nat → Int} : ∀ n, Small n F T G → (showW F T G n).length ≤ 4000000 * (n + 1)
  | 0, _ => by simp [showW, txWeigh]
  | n + 1, h => by
    have := showW_len n (fun k hk => h k (by omega))
    obtain ⟨a, b, c⟩ := h n (by omega)
    have := arcT_len a b c
    simp [showW]; omega
theorem showW_pos {F T G : Nat → Int} : ∀ k, 0 < (showW F T G k).length
  | 0 => by simp [showW, txWeigh]
  | k + 1 => by have := showW_pos (F := F) (T := T) (G := G) k; simp [showW]; omega
theorem batB_small {F T G : Nat → Int} {n : Nat} (h : batB F T G n = true) : Small n F T G := fun k hk => by
  have := arcB_iff.1 (batB_at h hk)
  omega
theorem brow_lit (w : World) : BRow (w.alloc (.cells #[.int .u8 119, .int .u8 101, .int .u8 105, .int .u8 103, .int .u8 104] 5 (5, 6))) w.heap.size 5 txWeigh := by
  have hb : (w.alloc (.cells #[.int .u8 119, .int .u8 101, .int .u8 105, .int .u8 103, .int .u8 104] 5 (5, 6))).heap[w.heap.size]? = some (.cells #[.int .u8 119, .int .u8 101, .int .u8 105, .int .u8 103, .int .u8 104] 5 (5, 6)) := heap_alloc_new w _
  generalize (w.alloc (.cells #[.int .u8 119, .int .u8 101, .int .u8 105, .int .u8 103, .int .u8 104] 5 (5, 6))) = X at hb ⊢
  generalize w.heap.size = g at hb ⊢
  refine ⟨by simp [txWeigh], fun j hj => ?_, fun j c hc => ?_⟩
  · have : j = 0 ∨ j = 1 ∨ j = 2 ∨ j = 3 ∨ j = 4 := by omega
    rcases this with rfl | rfl | rfl | rfl | rfl <;> simp [World.cell?, World.frozen?, hb]
  · match j, hc with
    | 0, hc => simp [txWeigh] at hc; subst hc; simp [World.cell?, hb]
    | 1, hc => simp [txWeigh] at hc; subst hc; simp [World.cell?, hb]
    | 2, hc => simp [txWeigh] at hc; subst hc; simp [World.cell?, hb]
    | 3, hc => simp [txWeigh] at hc; subst hc; simp [World.cell?, hb]
    | 4, hc => simp [txWeigh] at hc; subst hc; simp [World.cell?, hb]
    | j + 5, hc => simp [txWeigh] at hc
theorem box4 {w W : World} {a0 a1 a2 a3 : Value} {t : TypeId} (h : Below (w.heap.size + 1) (w.alloc (.cells #[a0, a1, a2, a3] t)) W) :
    W.cell? ⟨w.heap.size, 0, none⟩ = some a0 ∧ W.cell? ⟨w.heap.size, 1, none⟩ = some a1 ∧ W.cell? ⟨w.heap.size, 2, none⟩ = some a2 ∧ W.cell? ⟨w.heap.size, 3, none⟩ = some a3 ∧ w.heap.size < W.heap.size := by
  refine ⟨by rw [h.cell (by simp)]; simp [go_sem], by rw [h.cell (by simp)]; simp [go_sem], by rw [h.cell (by simp)]; simp [go_sem], by rw [h.cell (by simp)]; simp [go_sem], by have := h.size; simp at this; omega⟩

theorem l9Show_none (ao : Option Addr) (n cap : Nat) (a b : Int) (w : World) :
    Calls Tryd.prog 33 #[.agg #[.int .i64 1, .slice ao n cap, .int .i64 a, .int .i64 b]] w fun e w' => e = .returned (txt txNone) ∧ Below w.heap.size w w' := by
  go_enter Tryd.func33, Tryd.ntmps33
  go_wp2
  go_ret
  exact ⟨rfl, (Below.refl _ _).alloc (Nat.le_refl _) _⟩
theorem ask_add (a b : List UInt8) : ((({ data := #[97, 115, 107, 32] } : ByteArray) ++ { data := a.toArray }) ++ { data := #[32] }) ++ { data := b.toArray } = (⟨(txAsk ++ (32 :: (a ++ (32 :: b)))).toArray⟩ : ByteArray) := by
  apply ByteArray.ext
  simp [txAsk]

set_option maxRecDepth 20000 in
set_option maxHeartbeats 2000000 in
theorem l9Show_ask (ao : Option Addr) (n cap : Nat) (a b : Int) (ha : 0 ≤ a ∧ a ≤ 1000000) (hb : 0 ≤ b ∧ b ≤ 1000000) (w : World) :
    Calls Tryd.prog 33 #[.agg #[.int .i64 3, .slice ao n cap, .int .i64 a, .int .i64 b]] w fun e w' => e = .returned (txt (showA a b)) ∧ Below w.heap.size w w' := by
  have hA := (Below.refl w.heap.size w).alloc (Nat.le_refl _) (.cells #[.int .i64 3, .slice ao n cap, .int .i64 a, .int .i64 b] 26)
  have x2 : (w.alloc (.cells #[.int .i64 3, .slice ao n cap, .int .i64 a, .int .i64 b] 26)).cell? ⟨w.heap.size, 2, none⟩ = some (.int .i64 a) := by simp [go_sem]
  have x3 : (w.alloc (.cells #[.int .i64 3, .slice ao n cap, .int .i64 a, .int .i64 b] 26)).cell? ⟨w.heap.size, 3, none⟩ = some (.int .i64 b) := by simp [go_sem]
  have hal := dec_len ha.1 ha.2
  have hbl := dec_len hb.1 hb.2
  have q1 : ¬ 9223372036854775807 < 4 + (dec a).length := by omega
  have q2 : ¬ 9223372036854775807 < 4 + (dec a).length + 1 := by omega
  have q3 : ¬ 9223372036854775807 < 4 + (dec a).length + 1 + (dec b).length := by omega
  go_enter Tryd.func33, Tryd.ntmps33
  go_wp2
  replace hA := hA.drew
  generalize (w.alloc (.cells #[.int .i64 3, .slice ao n cap, .int .i64 a, .int .i64 b] 26)) = W at hA x2 x3 ⊢
  go_region_held3 (fun w' => w'.cell? ⟨w.heap.size, 2, none⟩ = some (.int .i64 a) ∧ w'.cell? ⟨w.heap.size, 3, none⟩ = some (.int .i64 b))
    (first | (go_split_ands; refine ⟨?_, ?_⟩ <;> exact keep_cell hb3 (Nat.le_refl _) (by assumption)) | (go_split_ands; refine ⟨?_, ?_⟩ <;> exact keep_cell hb2 (Nat.le_refl _) (by assumption)) | go_keep)
    (first | (go_at_call_of 64 (Value.int IntKind.i64 a); refine (l1Int_dec a ha.1 ha.2 _).mono ?_; rintro e w2 ⟨rfl, hb2⟩; replace hA := below_next hA (Nat.le_refl _) hb2) | (go_at_call_of 64 (Value.int IntKind.i64 b); refine (l1Int_dec b hb.1 hb.2 _).mono ?_; rintro e w3 ⟨rfl, hb3⟩; replace hA := below_next hA (Nat.le_refl _) hb3))
  all_goals
    go_wp2
    go_ret
    exact ⟨congrArg (fun x => Ending.returned (.string x)) (ask_add (dec a) (dec b)), hA⟩

set_option maxRecDepth 20000 in
set_option maxHeartbeats 2000000 in
theorem l9Show_weigh (ao : Option Addr) (n cap : Nat) (a b : Int) (F T G : Nat → Int) (hn : n ≤ 100) (hs : Small n F T G) (w : World) (hr : Row w ao n F T G) :
    Calls Tryd.prog 33 #[.agg #[.int .i64 2, .slice ao n cap, .int .i64 a, .int .i64 b]] w fun e w' => e = .returned (txt (showW F T G n)) ∧ Below w.heap.size w w' := by
  have hcv : (convert 22 22 (.slice (some ⟨w.heap.size + 1, 0, none⟩) 5 5)).run Tryd.prog ((w.alloc (.cells #[.int .i64 2, .slice ao n cap, .int .i64 a, .int .i64 b] 26)).alloc (.cells #[.int .u8 119, .int .u8 101, .int .u8 105, .int .u8 103, .int .u8 104] 5)) = .ok (.slice (some ⟨w.heap.size + 1, 0, none⟩) 5 5) ((w.alloc (.cells #[.int .i64 2, .slice ao n cap, .int .i64 a, .int .i64 b] 26)).alloc (.cells #[.int .u8 119, .int .u8 101, .int .u8 105, .int .u8 103, .int .u8 104] 5 (5, 6))) := by
    have := Go.Lib.run_convert_bytes_const (P := Tryd.prog) (w.alloc (.cells #[.int .i64 2, .slice ao n cap, .int .i64 a, .int .i64 b] 26)) 22 5 #[.int .u8 119, .int .u8 101, .int .u8 105, .int .u8 103, .int .u8 104] 5 5 Tryd.underlying22 Tryd.underlying5
    rw [World.size_alloc] at this
    exact this
  go_enter Tryd.func33, Tryd.ntmps33
  go_wp2
  clear hcv
  have hb0 := brow_lit (w.alloc (.cells #[.int .i64 2, .slice ao n cap, .int .i64 a, .int .i64 b] 26))
  go_loopw [3, 4] (fun b9 i wr => ∃ k : Nat, k ≤ n ∧ i = .int .i64 k ∧ ∃ g cap', b9 = .slice (some ⟨g, 0, none⟩) (showW F T G k).length cap' ∧ w.heap.size + 1 ≤ g ∧ BRow wr g cap' (showW F T G k) ∧ Below (w.heap.size + 1) (w.alloc (.cells #[.int .i64 2, .slice ao n cap, .int .i64 a, .int .i64 b] 26)) wr) (fun _ i _ => n - (intOf i).toNat)
  case atStart => exact ⟨0, Nat.zero_le _, rfl, w.heap.size + 1, 5, rfl, Nat.le_refl _, by have h9 := hb0; rw [World.size_alloc] at h9; exact h9, (Below.refl _ _).alloc (by simp) _⟩
  case round =>
    clear hb0
    obtain ⟨k, hk, rfl, g, cap', rfl, hg, hb, hbel⟩ := hrel
    obtain ⟨g0, g1, _, _, hsz⟩ := box4 hbel
    by_cases hlt : k < n
    rotate_left
    · have e : k = n := by omega
      subst e
      have hcv := conv_txt hb
      go_wp2
      go_ret
      exact ⟨rfl, unbox hbel (by omega)⟩
    obtain ⟨bb, o, hao, c0, c1, c2⟩ := ((hr.alloc _).below hbel (by simp)) k hlt
    subst hao
    obtain ⟨⟨f0, f1⟩, ⟨t0, t1⟩, ⟨w0, w1'⟩⟩ := hs k hlt
    have hfl := dec_len f0 f1
    have htl := dec_len t0 t1
    have hwl := dec_len w0 w1'
    have hll := showW_len k (fun j hj => hs j (by omega))
    go_wp2
    have hgl : g < wr.heap.size := hb.lt (showW_pos k)
    have q1 : ¬ 9223372036854775807 < 1 + (dec (F k)).length := by omega
    have q2 : ¬ 9223372036854775807 < 1 + (dec (F k)).length + 1 := by omega
    have q3 : ¬ 9223372036854775807 < 1 + (dec (F k)).length + 1 + (dec (T k)).length := by omega
    have q4 : ¬ 9223372036854775807 < 1 + (dec (F k)).length + 1 + (dec (T k)).length + 1 := by omega
    have q5 : ¬ 9223372036854775807 < 1 + (dec (F k)).length + 1 + (dec (T k)).length + 1 + (dec (G k)).length := by omega
    have hA := (hbel.alloc (by omega) (.cells #[.int .i64 (F k), .int .i64 (T k), .int .i64 (G k)] 50)).drew
    have hbA := (hb.below ((Below.refl wr.heap.size wr).alloc (Nat.le_refl _) (.cells #[.int .i64 (F k), .int .i64 (T k), .int .i64 (G k)] 50)).drew (Nat.le_refl _))
    go_region_held3 (fun w' => w'.cell? ⟨wr.heap.size, 0, none⟩ = some (.int .i64 (F k)) ∧ w'.cell? ⟨wr.heap.size, 1, none⟩ = some (.int .i64 (T k)) ∧ w'.cell? ⟨wr.heap.size, 2, none⟩ = some (.int .i64 (G k)))
      (first | (go_split_ands; refine ⟨?_, ?_, ?_⟩ <;> exact keep_cell ‹_› (Nat.le_refl _) (by assumption)) | (go_split_ands; refine ⟨?_, ?_, ?_⟩ <;> exact hgr5.cell (by assumption) (by simp; omega)) | go_keep)
      (first | (go_at_call_of 64 (Value.int IntKind.i64 (F k)); refine (l1Int_dec (F k) f0 f1 _).mono ?_; rintro e w2 ⟨rfl, hb2⟩; replace hbA := hbA.below hb2 (Nat.le_refl _); replace hA := below_next hA (by simp) hb2) | (go_at_call_of 64 (Value.int IntKind.i64 (T k)); refine (l1Int_dec (T k) t0 t1 _).mono ?_; rintro e w2 ⟨rfl, hb2⟩; replace hbA := hbA.below hb2 (Nat.le_refl _); replace hA := below_next hA (by simp) hb2) | (go_at_call_of 64 (Value.int IntKind.i64 (G k)); refine (l1Int_dec (G k) w0 w1' _).mono ?_; rintro e w2 ⟨rfl, hb2⟩; replace hbA := hbA.below hb2 (Nat.le_refl _); replace hA := below_next hA (by simp) hb2) | (refine step_append_txt ?_ (.tmp 35) (.tmp 49) ?_ g cap' (showW F T G k) (arcT (F k) (T k) (G k)) ?_ ?_ hbA ?_ (w.heap.size + 1) hg ?_ ?_; rfl; rfl; rfl; exact congrArg Value.string (arc_add _ _ _); (have := arcT_len ⟨f0, f1⟩ ⟨t0, t1⟩ ⟨w0, w1'⟩; omega); (have := hA.size; simp at this; omega); intro g' cap'' w5 hg' hbB hb5 hgr5))
    go_wp2
    go_roundw
    case rel => exact ⟨k + 1, by omega, by go_num, g', cap'', by simp [showW], hg', hbB, hA.trans hb5⟩
    case measure => simp [intOf]; omega

theorem specShowC_any (K : Int) (ao : Option Addr) (n cap : Nat) (a b : Int) (F T G : Nat → Int) (hn : n ≤ 1048576) (w : World) (hr : Row w ao n F T G) :
    Calls Tryd.prog 8 #[.agg #[.int .i64 K, .slice ao n cap, .int .i64 a, .int .i64 b]] w fun e w' => e = .returned (txt (showC K n F T G a b)) ∧ Below w.heap.size w w' := by
  have hal := (Below.refl w.heap.size w).alloc (Nat.le_refl _) (.cells #[.int .i64 K, .slice ao n cap, .int .i64 a, .int .i64 b] 26)
  have HCO : Hid (∀ W, Row W ao n F T G → Calls Tryd.prog 9 #[.agg #[.int .i64 K, .slice ao n cap, .int .i64 a, .int .i64 b]] W fun e w' => e = .returned (.bool (cmdB K n F T G a b)) ∧ Below W.heap.size W w') := fun W h => specCommandOk_any K ao n cap F T G a b hn W h
  have HL : Hid (cmdB K n F T G a b = true → ∀ W, Row W ao n F T G → Calls Tryd.prog 33 #[.agg #[.int .i64 K, .slice ao n cap, .int .i64 a, .int .i64 b]] W fun e w' => e = .returned (txt (showC K n F T G a b)) ∧ Below W.heap.size W w') := fun hc W h => by
    unfold showC
    rw [if_pos hc]
    by_cases k1 : K = 1
    · subst k1
      rw [if_pos rfl]
      exact l9Show_none ao n cap a b W
    rw [if_neg k1]
    by_cases k3 : K = 3
    · subst k3
      rw [if_pos rfl]
      simp [cmdB, inB_iff] at hc
      exact l9Show_ask ao n cap a b (by omega) (by omega) W
    rw [if_neg k3]
    by_cases k2 : K = 2
    · subst k2
      simp [cmdB, batchB] at hc
      exact l9Show_weigh ao n cap a b F T G (by omega) (batB_small hc.1.2.2) W h
    · simp [cmdB, k1, k2, k3] at hc
  have HE : Hid (cmdB K n F T G a b = false → showC K n F T G a b = []) := fun hc => by unfold showC; rw [hc]; rfl
  have hrA := hr.below hal (Nat.le_refl _)
  go_enter Tryd.func8, Tryd.ntmps8
  go_wp2_with fail
  have v1 : (w.alloc (.cells #[.int .i64 K, .slice ao n cap, .int .i64 a, .int .i64 b] 26)).cell? ⟨w.heap.size, 0, none⟩ = some (.int .i64 K) := by simp [go_sem]
  have v2 : (w.alloc (.cells #[.int .i64 K, .slice ao n cap, .int .i64 a, .int .i64 b] 26)).cell? ⟨w.heap.size, 1, none⟩ = some (.slice ao n cap) := by simp [go_sem]
  have v3 : (w.alloc (.cells #[.int .i64 K, .slice ao n cap, .int .i64 a, .int .i64 b] 26)).cell? ⟨w.heap.size, 2, none⟩ = some (.int .i64 a) := by simp [go_sem]
  have v4 : (w.alloc (.cells #[.int .i64 K, .slice ao n cap, .int .i64 a, .int .i64 b] 26)).cell? ⟨w.heap.size, 3, none⟩ = some (.int .i64 b) := by simp [go_sem]
  generalize (w.alloc (.cells #[.int .i64 K, .slice ao n cap, .int .i64 a, .int .i64 b] 26)) = W at hal hrA v1 v2 v3 v4 ⊢
  refine (HCO.out _ hrA).mono ?_
  rintro e w1 ⟨rfl, hb1⟩
  replace hal := below_next hal (Nat.le_refl _) hb1
  replace hrA := hrA.below hb1 (Nat.le_refl _)
  replace v1 := keep_cell hb1 (Nat.le_refl _) v1
  replace v2 := keep_cell hb1 (Nat.le_refl _) v2
  replace v3 := keep_cell hb1 (Nat.le_refl _) v3
  replace v4 := keep_cell hb1 (Nat.le_refl _) v4
  clear hb1
  cases hc : cmdB K n F T G a b
  · have HE2 := HE.out hc
    go_wp2
    go_ret
    exact ⟨by rw [HE2]; rfl, hal⟩
  · have HL2 : Hid (∀ W, Row W ao n F T G → Calls Tryd.prog 33 #[.agg #[.int .i64 K, .slice ao n cap, .int .i64 a, .int .i64 b]] W fun e w' => e = .returned (txt (showC K n F T G a b)) ∧ Below W.heap.size W w') := HL.out hc
    clear HL HE HCO hc
    go_wp2_with fail
    refine (HL2.out _ hrA).mono ?_
    rintro e w2 ⟨rfl, hb2⟩
    go_wp2
    go_ret
    exact ⟨rfl, below_next hal (Nat.le_refl _) hb2⟩

end Go.Proofs.YtcmeppjfjledfacDoor

/-
  The plain heart of FnCommands: a command is read from what it is shown as, and a text that is read is the one of what it says.
-/
set_option linter.unusedVariables false
set_option linter.unusedSimpArgs false
namespace Go.Proofs.YtcmeppjfjledfacDoor
open Go.Lib (itoa)

theorem showW_flat {F T G : Nat → Int} : ∀ n, 0 < n → Small n F T G → showW F T G n = txWeigh ++ 32 :: joinW ((flat F T G n).map itoa)
  | 0, h, _ => by omega
  | 1, _, h => by
    obtain ⟨h1, h2, h3⟩ := h 0 (by omega)
    simp [showW, flat, joinW, arcT, dec_itoa h1.1, dec_itoa h2.1, dec_itoa h3.1]
  | k + 2, _, h => by
    obtain ⟨h1, h2, h3⟩ := h (k + 1) (by omega)
    have e : (flat F T G (k + 2)).map itoa = (((flat F T G (k + 1)).map itoa ++ [itoa (F (k + 1))]) ++ [itoa (T (k + 1))]) ++ [itoa (G (k + 1))] := by simp [flat]
    have hne : (flat F T G (k + 1)).map itoa ≠ [] := by simp [flat]
    rw [e, join_snoc (by simp), join_snoc (by simp), join_snoc hne]
    have ih := showW_flat (F := F) (T := T) (G := G) (k + 1) (by omega) (fun j hj => h j (by omega))
    unfold showW
    rw [ih]
    simp [arcT, dec_itoa h1.1, dec_itoa h2.1, dec_itoa h3.1]
theorem cmd_small {n : Nat} {F T G : Nat → Int} (h : batchB F T G n = true) : 0 < n ∧ n ≤ 10 ∧ Small n F T G := by
  unfold batchB at h
  simp only [Bool.and_eq_true, decide_eq_true_eq] at h
  refine ⟨by omega, h.2.1, fun k hk => ?_⟩
  have := arcB_iff.1 (batB_at h.2.2 hk)
  omega
theorem flat_all {n : Nat} {F T G : Nat → Int} (h3 : Small n F T G) : ∀ v ∈ flat F T G n, -999999999 ≤ v ∧ v ≤ 999999999 := by
  have hf : ∀ m, m ≤ n → ∀ v ∈ flat F T G m, -999999999 ≤ v ∧ v ≤ 999999999 := by
    intro m
    induction m with
    | zero => intro _ v hv; cases hv
    | succ m ih =>
      intro hm v hv
      obtain ⟨q1, q2, q3⟩ := h3 m (by omega)
      rcases List.mem_append.1 hv with hv | hv
      · exact ih (by omega) v hv
      · simp at hv
        rcases hv with rfl | rfl | rfl <;> omega
  exact hf n (Nat.le_refl _)
theorem batB_same {F T G F' T' G' : Nat → Int} : ∀ n, (∀ k, k < n → F k = F' k ∧ T k = T' k ∧ G k = G' k) → batB F T G n = batB F' T' G' n
  | 0, _ => rfl
  | k + 1, h => by
    obtain ⟨a, b, c⟩ := h k (by omega)
    unfold batB
    rw [batB_same k (fun j hj => h j (by omega)), a, b, c]
theorem join_pos {a b : List UInt8} {r : List (List UInt8)} : 0 < (joinW (a :: b :: r)).length := by
  rw [join_cons (by simp)]
  simp
  omega

/-- What is shown is read as itself. -/
theorem read_showC {K : Int} {n : Nat} {F T G : Nat → Int} {a b : Int} (h : cmdB K n F T G a b = true) :
    ∃ r, onlyOk (rdS (showC K n F T G a b)) = some r ∧ kOf (some r) = K ∧ (lOf (some r)).length / 3 = n ∧ (∀ k, k < n → at3 (lOf (some r)) 0 k = F k ∧ at3 (lOf (some r)) 1 k = T k ∧ at3 (lOf (some r)) 2 k = G k) ∧ aOf (some r) 0 = a ∧ aOf (some r) 1 = b := by
  have hs : showC K n F T G a b = (if K = 1 then txNone else if K = 3 then showA a b else showW F T G n) := if_pos h
  rw [hs]
  unfold cmdB at h
  by_cases h1 : K = 1
  · subst h1
    simp only [if_true, Bool.and_eq_true, decide_eq_true_eq] at h
    obtain ⟨rfl, rfl, rfl⟩ := h
    exact ⟨(1, []), rfl, rfl, rfl, fun k hk => by omega, rfl, rfl⟩
  rw [if_neg h1] at h ⊢
  by_cases h2 : K = 2
  · subst h2
    simp only [if_true, Bool.and_eq_true, decide_eq_true_eq] at h
    obtain ⟨hb, rfl, rfl⟩ := h
    obtain ⟨g1, g2, g3⟩ := cmd_small hb
    have hl := flat_len F T G n
    have hat : ∀ k, k < n → at3 (flat F T G n) 0 k = F k ∧ at3 (flat F T G n) 1 k = T k ∧ at3 (flat F T G n) 2 k = G k := fun k hk => flat_get F T G n k hk
    rw [if_neg (by omega), showW_flat n g1 g3]
    have hne : flat F T G n ≠ [] := fun e => by rw [e] at hl; simp at hl; omega
    have hj : 0 < (joinW ((flat F T G n).map itoa)).length := by
      match hx : flat F T G n with
      | [] => rw [hx] at hl; simp at hl; omega
      | [x] => rw [hx] at hl; simp at hl; omega
      | x :: y :: r => exact join_pos
    have hr : rdS (txWeigh ++ 32 :: joinW ((flat F T G n).map itoa)) = some (2, flat F T G n) := by
      unfold rdS
      rw [if_neg (by simp [txWeigh, txNone]), if_neg (by simp [txWeigh, txAsk]), if_pos (by simp [txWeigh]; omega)]
      have hd : (txWeigh ++ 32 :: joinW ((flat F T G n).map itoa)).drop 6 = joinW ((flat F T G n).map itoa) := by simp [txWeigh]
      rw [hd, snums_show hne (flat_all g3)]
      simp [hl]
    rw [hr]
    have hok : okC 2 (flat F T G n) = true := by
      unfold okC cmdB
      simp only [hl]
      have e3 : 3 * n / 3 = n := by omega
      rw [e3]
      unfold batchB at hb ⊢
      rw [batB_same n hat]
      simpa using hb
    refine ⟨(2, flat F T G n), ?_, rfl, ?_, hat, rfl, rfl⟩
    · unfold onlyOk
      simp only
      rw [if_pos hok]
    · show (flat F T G n).length / 3 = n
      omega
  rw [if_neg h2] at h
  by_cases h3 : K = 3
  · subst h3
    simp only [if_true, Bool.and_eq_true, decide_eq_true_eq] at h
    obtain ⟨rfl, ha, hb⟩ := h
    have ha' := inB_iff.1 ha
    have hb' := inB_iff.1 hb
    rw [if_pos rfl]
    have hj : showA a b = txAsk ++ 32 :: joinW ([a, b].map itoa) := by simp [showA, joinW, dec_itoa ha'.1, dec_itoa hb'.1]
    rw [hj]
    have hall : ∀ v ∈ [a, b], -999999999 ≤ v ∧ v ≤ 999999999 := by
      intro v hv
      simp at hv
      rcases hv with rfl | rfl <;> omega
    have hr : rdS (txAsk ++ 32 :: joinW ([a, b].map itoa)) = some (3, [a, b]) := by
      unfold rdS
      rw [if_neg (by simp [txAsk, txNone]), if_pos (by simp [txAsk, joinW]; omega)]
      have hd : (txAsk ++ 32 :: joinW ([a, b].map itoa)).drop 4 = joinW ([a, b].map itoa) := by simp [txAsk]
      rw [hd, snums_show (by simp) hall]
      simp
    rw [hr]
    refine ⟨(3, [a, b]), ?_, rfl, by simp [lOf], fun k hk => by omega, by simp [aOf], by simp [aOf]⟩
    unfold onlyOk
    simp only
    rw [if_pos]
    unfold okC cmdB
    simp [ha, hb]
  · rw [if_neg h3] at h
    cases h

/-- What is read is shown as itself. -/
theorem show_readC {l : List UInt8} {r : Int × List Int} (h : onlyOk (rdS l) = some r) :
    showC (kOf (some r)) ((lOf (some r)).length / 3) (at3 (lOf (some r)) 0) (at3 (lOf (some r)) 1) (at3 (lOf (some r)) 2) (aOf (some r) 0) (aOf (some r) 1) = l := by
  obtain ⟨K, ns⟩ := r
  unfold onlyOk at h
  cases hrd : rdS l with
  | none => rw [hrd] at h; cases h
  | some q =>
    obtain ⟨K', ns'⟩ := q
    rw [hrd] at h
    simp only at h
    by_cases hok : okC K' ns' = true
    · rw [if_pos hok] at h
      obtain ⟨rfl, rfl⟩ := Prod.mk.inj (Option.some.inj h)
      clear h
      unfold rdS at hrd
      by_cases c1 : l = txNone
      · rw [if_pos c1] at hrd
        obtain ⟨rfl, rfl⟩ := Prod.mk.inj (Option.some.inj hrd)
        rw [c1]
        rfl
      rw [if_neg c1] at hrd
      by_cases c2 : 4 < l.length ∧ l.take 4 = txAsk ++ [32]
      · rw [if_pos c2] at hrd
        cases hn : snums (l.drop 4) [] [] with
        | none => rw [hn] at hrd; cases hrd
        | some ns2 =>
          rw [hn] at hrd
          simp only at hrd
          by_cases h2 : ns2.length = 2
          · rw [if_pos h2] at hrd
            obtain ⟨rfl, rfl⟩ := Prod.mk.inj (Option.some.inj hrd)
            match ns2, h2 with
            | [x, y], _ =>
              have hsh := show_snums hn
              have hcm : cmdB 3 0 (at3 [] 0) (at3 [] 1) (at3 [] 2) x y = true := by
                unfold okC at hok
                simpa [cmdB] using hok
              have hxy : 0 ≤ x ∧ 0 ≤ y := by
                unfold cmdB at hcm
                simp [inB] at hcm
                omega
              have e1 : lOf (some ((3 : Int), [x, y])) = [] := by simp [lOf]
              have e2 : aOf (some ((3 : Int), [x, y])) 0 = x := by simp [aOf]
              have e3 : aOf (some ((3 : Int), [x, y])) 1 = y := by simp [aOf]
              rw [e1, e2, e3]
              show showC 3 0 (at3 [] 0) (at3 [] 1) (at3 [] 2) x y = l
              unfold showC
              rw [if_pos hcm, if_neg (by decide), if_pos rfl]
              have hj : showA x y = txAsk ++ 32 :: joinW ([x, y].map itoa) := by simp [showA, joinW, dec_itoa hxy.1, dec_itoa hxy.2]
              rw [hj, hsh]
              have := List.take_append_drop 4 l
              rw [c2.2] at this
              simpa using this
          · rw [if_neg h2] at hrd; cases hrd
      rw [if_neg c2] at hrd
      by_cases c3 : 6 < l.length ∧ l.take 6 = txWeigh ++ [32]
      · rw [if_pos c3] at hrd
        cases hn : snums (l.drop 6) [] [] with
        | none => rw [hn] at hrd; cases hrd
        | some ns2 =>
          rw [hn] at hrd
          simp only at hrd
          by_cases h2 : ns2.length % 3 = 0
          · rw [if_pos h2] at hrd
            obtain ⟨rfl, rfl⟩ := Prod.mk.inj (Option.some.inj hrd)
            have hsh := show_snums hn
            have hcm : cmdB 2 (ns2.length / 3) (at3 ns2 0) (at3 ns2 1) (at3 ns2 2) 0 0 = true := by
              unfold okC at hok
              simpa using hok
            have hbt : batchB (at3 ns2 0) (at3 ns2 1) (at3 ns2 2) (ns2.length / 3) = true := by
              unfold cmdB at hcm
              simpa using hcm
            obtain ⟨g1, g2, g3⟩ := cmd_small hbt
            have hfl : flat (at3 ns2 0) (at3 ns2 1) (at3 ns2 2) (ns2.length / 3) = ns2 := list_flat _ _ (by omega) (fun k hk => ⟨rfl, rfl, rfl⟩)
            show showC 2 (ns2.length / 3) (at3 ns2 0) (at3 ns2 1) (at3 ns2 2) 0 0 = l
            unfold showC
            rw [if_pos hcm, if_neg (by decide), if_neg (by decide), showW_flat _ g1 g3, hfl, hsh]
            have := List.take_append_drop 6 l
            rw [c3.2] at this
            simpa using this
          · rw [if_neg h2] at hrd; cases hrd
      · rw [if_neg c3] at hrd; cases hrd
    · rw [if_neg hok] at h; cases h

end Go.Proofs.YtcmeppjfjledfacDoor

/-
  Words in a list of the call's own, and their join.
-/
set_option linter.unusedVariables false
set_option linter.unusedSimpArgs false
namespace Go.Proofs.YtcmeppjfjledfacDoor
open Go.RowKit
attribute [local go_sem ↓] Go.wp_at_zero Go.wp_at_succ

theorem boxed1 {w W : World} {o : Obj} (h : Below (w.alloc o).heap.size (w.alloc o) W) : Below (w.heap.size + 1) (w.alloc o) W := h.mono (by simp)
def scells (W : List (List UInt8)) : List Value := W.map txt
theorem join_any (g c : Nat) (W : List (List UInt8)) (w : World) (hc : ∀ j u, (scells W)[j]? = some u → w.cell? ⟨g, j, none⟩ = some u) (hg : g < w.heap.size) (hN : W.length ≤ 1000) (hcap : W.length ≤ c) (hlen : (Lib.join W [32]).length ≤ 1000000000000) :
    Calls Tryd.prog 32 #[.slice (some ⟨g, 0, none⟩) W.length c, .string ⟨#[32]⟩] w fun e w' => e = .returned (txt (Lib.join W [32])) ∧ Below w.heap.size w w' := by
  have e1 : (W.map fun l => (⟨l.toArray⟩ : ByteArray)).length = W.length := List.length_map _
  have e2 : (W.map fun l => (⟨l.toArray⟩ : ByteArray)).map (·.data.toList) = W := by simp [Function.comp_def]
  have h := Tryd.strings_Join g 0 c (W.map fun l => (⟨l.toArray⟩ : ByteArray)) ⟨#[32]⟩ w (fun j x hx => by
    rw [Nat.zero_add]
    refine hc j _ ?_
    simp [scells] at hx ⊢
    obtain ⟨l, hl, rfl⟩ := hx
    exact ⟨l, hl, rfl⟩) hg (by rw [e1]; omega) (by rw [e1]; exact hcap) (by rw [e2]; show (Lib.join W [32]).length ≤ _; omega)
  rw [e1, e2] at h
  exact h
theorem Tryd.infoStr : (Tryd.prog.info? 9).map (fun i => (i.zero, i.size, i.bytes)) = some (some (.string ByteArray.empty), 1, 16) := by kernel_rfl
theorem scells_one (W : List (List UInt8)) : ∀ u ∈ scells W, u.oneCell' = true := fun u hu => by
  simp [scells] at hu
  obtain ⟨_, _, rfl⟩ := hu
  rfl
theorem news3 (w : World) (a b c : List UInt8) : ∀ j u, (scells [a, b, c])[j]? = some u → (w.alloc (.cells #[txt a, txt b, txt c] 9)).cell? ((⟨w.heap.size, 0, none⟩ : Addr).add j) = some u := fun j u hu => by
  match j, hu with
  | 0, hu => simp [scells] at hu; subst hu; simp [Addr.add, go_sem]
  | 1, hu => simp [scells] at hu; subst hu; simp [Addr.add, go_sem]
  | 2, hu => simp [scells] at hu; subst hu; simp [Addr.add, go_sem]
/-- The box of an argument of two cells, in a later world. -/
theorem boxd {w W : World} {a0 a1 : Value} {t : TypeId} (h : Below (w.heap.size + 1) (w.alloc (.cells #[a0, a1] t)) W) :
    W.cell? ⟨w.heap.size, 0, none⟩ = some a0 ∧ W.cell? ⟨w.heap.size, 1, none⟩ = some a1 ∧ w.heap.size < W.heap.size := by
  refine ⟨by rw [h.cell (by simp)]; simp [go_sem], by rw [h.cell (by simp)]; simp [go_sem], by have := h.size; simp at this; omega⟩
theorem owns_below {w w' : World} {base e size n : Nat} {v : Value} {xs : List Value} (h : w.ownsRow base e size v n xs) (hb : Below w.heap.size w w') : w'.ownsRow base e size v n xs :=
  h.kept (row := none) ⟨hb.os, hb.tape, hb.output, hb.size, fun k hk _ => hb.block k hk⟩ (by cases v.ownBlock <;> simp)
theorem owns_lt {w : World} {base e n cap g : Nat} {xs : List Value} (h : w.ownsRow base e 1 (.slice (some ⟨g, 0, none⟩) n cap) n xs) : g < w.heap.size := by
  obtain ⟨_, h0 | ⟨g', cap', cur, hv, _, hh, _⟩⟩ := h
  · simp at h0
  · simp at hv
    obtain ⟨rfl, rfl⟩ := hv
    exact (Array.getElem?_eq_some_iff.1 hh).1
theorem owns_cells {w : World} {base e n cap g : Nat} {xs : List Value} (h : w.ownsRow base e 1 (.slice (some ⟨g, 0, none⟩) n cap) n xs) : ∀ j u, xs[j]? = some u → w.cell? ⟨g, j, none⟩ = some u := fun j u hu => by
  have hl := h.1
  have hj : j < xs.length := (List.getElem?_eq_some_iff.1 hu).1
  rw [World.ownsRow.cellAt h j (by omega)]
  exact hu

end Go.Proofs.YtcmeppjfjledfacDoor

/-
  A command as text: the program makes the document's. For every command of at most 2^20 arcs.
-/
set_option linter.unusedVariables false
set_option linter.unusedSimpArgs false
namespace Go.Proofs.YtcmeppjfjledfacDoor
open Go.RowKit Go.Maps
attribute [local go_sem ↓] Go.wp_at_zero Go.wp_at_succ

/-- The words of a text. -/
def wordsW (F T G : Nat → Int) : Nat → List (List UInt8)
  | 0 => [txWeigh]
  | k + 1 => wordsW F T G k ++ [dec (F k), dec (T k), dec (G k)]
theorem wordsW_len (F T G : Nat → Int) : ∀ k, (wordsW F T G k).length = 1 + 3 * k
  | 0 => rfl
  | k + 1 => by rw [wordsW, List.length_append, wordsW_len F T G k]; simp; omega
theorem wordsW_cons (F T G : Nat → Int) : ∀ k, ∃ r, wordsW F T G k = txWeigh :: r
  | 0 => ⟨[], rfl⟩
  | k + 1 => by
    obtain ⟨r, e⟩ := wordsW_cons F T G k
    exact ⟨r ++ [dec (F k), dec (T k), dec (G k)], by rw [wordsW, e]; rfl⟩
theorem join_more (x : List UInt8) (r s : List (List UInt8)) : Lib.join (x :: (r ++ s)) [32] = Lib.join (x :: r) [32] ++ (s.map fun l => 32 :: l).flatten := by
  simp only [Lib.join_cons, Lib.joinTail, List.map_append, List.flatten_append]
  simp
theorem join_wordsW (F T G : Nat → Int) : ∀ k, Lib.join (wordsW F T G k) [32] = showW F T G k
  | 0 => by simp [wordsW, showW, Lib.join_one]
  | k + 1 => by
    have ih := join_wordsW F T G k
    obtain ⟨r, e⟩ := wordsW_cons F T G k
    rw [wordsW, showW, ← ih, e, List.cons_append, join_more]
    simp [arcT]
theorem join_ask (a b : Int) : Lib.join [txAsk, dec a, dec b] [32] = showA a b := by
  simp [Lib.join_cons, Lib.joinTail, showA]
/-- Words of the call's own. -/
def OwnW (w : World) (base g cap : Nat) (W : List (List UInt8)) : Prop := w.ownsRow base 9 1 (.slice (some ⟨g, 0, none⟩) W.length cap) W.length (scells W)
theorem OwnW.next {w w' : World} {base g cap : Nat} {W : List (List UInt8)} (h : OwnW w base g cap W) (hb : Below w.heap.size w w') : OwnW w' base g cap W := owns_below h hb
theorem OwnW.lt {w : World} {base g cap : Nat} {W : List (List UInt8)} (h : OwnW w base g cap W) : g < w.heap.size := owns_lt h
theorem OwnW.base {w : World} {base g cap : Nat} {W : List (List UInt8)} (h : OwnW w base g cap W) : base ≤ g := (World.ownsRow.lt h g rfl).1
theorem OwnW.room {w : World} {base g cap : Nat} {W : List (List UInt8)} (h : OwnW w base g cap W) : W.length ≤ cap := by
  obtain ⟨hl, h0 | ⟨g', cap', cur, hv, hb, hh, h1, h2, h3, h4⟩⟩ := h
  · simp at h0
  · simp at hv
    omega
theorem ownw_one (w : World) {base : Nat} (hb : base ≤ w.heap.size) (x : List UInt8) : OwnW (w.alloc (.cells #[txt x] 9)) base w.heap.size 1 [x] := by
  have := World.ownsRow_lit (base := base) (e := 9) (size := 1) w #[txt x] 1 hb (by unfold maxLen; omega) (by simp)
  simpa [OwnW, scells] using this
/-- At a step of a region that draws its order: three words more. -/
theorem step_append_three {ops : Array Oper} {o : Oper} {a : Act} {w : World} {K : Act → World → Prop} {Q : Exit → Act → World → Prop} {E : Prop} (hgd : o.guard = none) (s x : Operand)
    (ho : o.op = .call { callee := .builtin .append, args := #[s, x], argTypes := #[48, 48] }) (base g cap : Nat) (W : List (List UInt8)) (hs : a.eval s = .slice (some ⟨g, 0, none⟩) W.length cap) (hown : OwnW w base g cap W) (B : Nat) (x1 x2 x3 : List UInt8) (hx : a.eval x = .slice (some ⟨B, 0, none⟩) 3 3)
    (hB : ∀ j u, (scells [x1, x2, x3])[j]? = some u → w.cell? ((⟨B, 0, none⟩ : Addr).add j) = some u) (hk : W.length ≤ 1000000) (hbase : base ≤ w.heap.size)
    (h : ∀ g' gc' w', OwnW w' base g' gc' (W ++ [x1, x2, x3]) → w.grownBy w' (some g) → K (a.put o.dst (.slice (some ⟨g', 0, none⟩) (W ++ [x1, x2, x3]).length gc')) w') :
    if Region.wanted o (yielded ops a.tmps) = true then Oper.wp Tryd.prog o a w K Q else E := by
  have hw : Region.wanted o (yielded ops a.tmps) = true := by simp [Region.wanted, hgd]
  rw [if_pos hw]
  obtain ⟨i0, hi0, hz0, hz1, hz2⟩ := info_parts Tryd.infoStr
  refine wp_append_lies w s x 48 ho base 9 i0 _ 1 16 Tryd.underlying48 hi0 hz0 hz1 hz2 rfl (by omega) _ W.length (scells W) hs hown ⟨B, 0, none⟩ 3 3 (scells [x1, x2, x3]) hx rfl hB (scells_one _) (by omega) (by unfold maxLen; omega) (by omega) hbase w.heap.size rfl ?_
  intro g' gc' w' hown' hgrow _ _
  have e1 : W.length + 3 = (W ++ [x1, x2, x3]).length := by simp
  have e2 : scells W ++ scells [x1, x2, x3] = scells (W ++ [x1, x2, x3]) := by simp [scells]
  rw [e2] at hown'
  have := h g' gc' w' (by unfold OwnW; rw [← e1]; exact hown') hgrow
  rw [← e1] at this
  exact this

theorem implShowC_none (ao : Option Addr) (n cap : Nat) (F T G : Nat → Int) (a b : Int) (hn : n ≤ 1048576) (hc : cmdB 1 n F T G a b = true) (w : World) (hr : Row w ao n F T G) :
    Calls Tryd.prog 7 #[.agg #[.int .i64 1, .slice ao n cap, .int .i64 a, .int .i64 b]] w fun e w' => e = .returned (txt txNone) ∧ Below w.heap.size w w' := by
  have hA := (Below.refl w.heap.size w).alloc (Nat.le_refl _) (.cells #[.int .i64 1, .slice ao n cap, .int .i64 a, .int .i64 b] 26)
  have HCO : Hid (∀ W, Row W ao n F T G → Calls Tryd.prog 30 #[.agg #[.int .i64 1, .slice ao n cap, .int .i64 a, .int .i64 b]] W fun e w' => e = .returned (.bool (cmdB 1 n F T G a b)) ∧ Below W.heap.size W w') := fun W h => implCommandOk_any 1 ao n cap F T G a b hn W h
  have x0 : (w.alloc (.cells #[.int .i64 1, .slice ao n cap, .int .i64 a, .int .i64 b] 26)).cell? ⟨w.heap.size, 0, none⟩ = some (.int .i64 1) := by simp [go_sem]
  have x1 : (w.alloc (.cells #[.int .i64 1, .slice ao n cap, .int .i64 a, .int .i64 b] 26)).cell? ⟨w.heap.size, 1, none⟩ = some (.slice ao n cap) := by simp [go_sem]
  have x2 : (w.alloc (.cells #[.int .i64 1, .slice ao n cap, .int .i64 a, .int .i64 b] 26)).cell? ⟨w.heap.size, 2, none⟩ = some (.int .i64 a) := by simp [go_sem]
  have x3 : (w.alloc (.cells #[.int .i64 1, .slice ao n cap, .int .i64 a, .int .i64 b] 26)).cell? ⟨w.heap.size, 3, none⟩ = some (.int .i64 b) := by simp [go_sem]
  have hsz : w.heap.size < (w.alloc (.cells #[.int .i64 1, .slice ao n cap, .int .i64 a, .int .i64 b] 26)).heap.size := by simp
  have hrA := hr.below hA (Nat.le_refl _)
  go_enter Tryd.func7, Tryd.ntmps7
  go_wp2_with fail
  generalize (w.alloc (.cells #[.int .i64 1, .slice ao n cap, .int .i64 a, .int .i64 b] 26)) = W at hA x0 x1 x2 x3 hsz hrA ⊢
  refine (HCO.out _ hrA).mono ?_
  rintro e w1 ⟨rfl, hb1⟩
  rw [hc]
  replace hA := below_next hA (Nat.le_refl _) hb1
  replace hrA := hrA.below hb1 (Nat.le_refl _)
  replace x0 := keep_cell hb1 (Nat.le_refl _) x0
  replace x1 := keep_cell hb1 (Nat.le_refl _) x1
  replace x2 := keep_cell hb1 (Nat.le_refl _) x2
  replace x3 := keep_cell hb1 (Nat.le_refl _) x3
  have hsz1 : w.heap.size < w1.heap.size := lt_of_cell x0
  clear hb1 HCO
  go_wp2
  go_ret
  exact ⟨rfl, hA⟩
theorem implShowC_no (K : Int) (ao : Option Addr) (n cap : Nat) (F T G : Nat → Int) (a b : Int) (hn : n ≤ 1048576) (hc : cmdB K n F T G a b = false) (w : World) (hr : Row w ao n F T G) :
    Calls Tryd.prog 7 #[.agg #[.int .i64 K, .slice ao n cap, .int .i64 a, .int .i64 b]] w fun e w' => e = .returned (txt []) ∧ Below w.heap.size w w' := by
  have hA := (Below.refl w.heap.size w).alloc (Nat.le_refl _) (.cells #[.int .i64 K, .slice ao n cap, .int .i64 a, .int .i64 b] 26)
  have HCO : Hid (∀ W, Row W ao n F T G → Calls Tryd.prog 30 #[.agg #[.int .i64 K, .slice ao n cap, .int .i64 a, .int .i64 b]] W fun e w' => e = .returned (.bool (cmdB K n F T G a b)) ∧ Below W.heap.size W w') := fun W h => implCommandOk_any K ao n cap F T G a b hn W h
  have x0 : (w.alloc (.cells #[.int .i64 K, .slice ao n cap, .int .i64 a, .int .i64 b] 26)).cell? ⟨w.heap.size, 0, none⟩ = some (.int .i64 K) := by simp [go_sem]
  have x1 : (w.alloc (.cells #[.int .i64 K, .slice ao n cap, .int .i64 a, .int .i64 b] 26)).cell? ⟨w.heap.size, 1, none⟩ = some (.slice ao n cap) := by simp [go_sem]
  have x2 : (w.alloc (.cells #[.int .i64 K, .slice ao n cap, .int .i64 a, .int .i64 b] 26)).cell? ⟨w.heap.size, 2, none⟩ = some (.int .i64 a) := by simp [go_sem]
  have x3 : (w.alloc (.cells #[.int .i64 K, .slice ao n cap, .int .i64 a, .int .i64 b] 26)).cell? ⟨w.heap.size, 3, none⟩ = some (.int .i64 b) := by simp [go_sem]
  have hsz : w.heap.size < (w.alloc (.cells #[.int .i64 K, .slice ao n cap, .int .i64 a, .int .i64 b] 26)).heap.size := by simp
  have hrA := hr.below hA (Nat.le_refl _)
  go_enter Tryd.func7, Tryd.ntmps7
  go_wp2_with fail
  generalize (w.alloc (.cells #[.int .i64 K, .slice ao n cap, .int .i64 a, .int .i64 b] 26)) = W at hA x0 x1 x2 x3 hsz hrA ⊢
  refine (HCO.out _ hrA).mono ?_
  rintro e w1 ⟨rfl, hb1⟩
  rw [hc]
  replace hA := below_next hA (Nat.le_refl _) hb1
  replace hrA := hrA.below hb1 (Nat.le_refl _)
  replace x0 := keep_cell hb1 (Nat.le_refl _) x0
  replace x1 := keep_cell hb1 (Nat.le_refl _) x1
  replace x2 := keep_cell hb1 (Nat.le_refl _) x2
  replace x3 := keep_cell hb1 (Nat.le_refl _) x3
  have hsz1 : w.heap.size < w1.heap.size := lt_of_cell x0
  clear hb1 HCO
  go_wp2
  go_ret
  exact ⟨rfl, hA⟩

set_option maxRecDepth 20000 in
set_option maxHeartbeats 4000000 in
theorem implShowC_ask (ao : Option Addr) (n cap : Nat) (F T G : Nat → Int) (a b : Int) (hn : n ≤ 1048576) (ha : 0 ≤ a ∧ a ≤ 1000000) (hb : 0 ≤ b ∧ b ≤ 1000000) (hc : cmdB 3 n F T G a b = true) (w : World) (ht : Tab w) (hr : Row w ao n F T G) :
    Calls Tryd.prog 7 #[.agg #[.int .i64 3, .slice ao n cap, .int .i64 a, .int .i64 b]] w fun e w' => e = .returned (txt (showA a b)) ∧ Below w.heap.size w w' := by
  have hal := dec_len ha.1 ha.2
  have hbl := dec_len hb.1 hb.2
  have hjl : (Lib.join [txAsk, dec a, dec b] [32]).length ≤ 1000000000000 := by
    rw [join_ask]
    simp [showA, txAsk]
    omega
  have hA := (Below.refl w.heap.size w).alloc (Nat.le_refl _) (.cells #[.int .i64 3, .slice ao n cap, .int .i64 a, .int .i64 b] 26)
  have HCO : Hid (∀ W, Row W ao n F T G → Calls Tryd.prog 30 #[.agg #[.int .i64 3, .slice ao n cap, .int .i64 a, .int .i64 b]] W fun e w' => e = .returned (.bool (cmdB 3 n F T G a b)) ∧ Below W.heap.size W w') := fun W h => implCommandOk_any 3 ao n cap F T G a b hn W h
  have x0 : (w.alloc (.cells #[.int .i64 3, .slice ao n cap, .int .i64 a, .int .i64 b] 26)).cell? ⟨w.heap.size, 0, none⟩ = some (.int .i64 3) := by simp [go_sem]
  have x1 : (w.alloc (.cells #[.int .i64 3, .slice ao n cap, .int .i64 a, .int .i64 b] 26)).cell? ⟨w.heap.size, 1, none⟩ = some (.slice ao n cap) := by simp [go_sem]
  have x2 : (w.alloc (.cells #[.int .i64 3, .slice ao n cap, .int .i64 a, .int .i64 b] 26)).cell? ⟨w.heap.size, 2, none⟩ = some (.int .i64 a) := by simp [go_sem]
  have x3 : (w.alloc (.cells #[.int .i64 3, .slice ao n cap, .int .i64 a, .int .i64 b] 26)).cell? ⟨w.heap.size, 3, none⟩ = some (.int .i64 b) := by simp [go_sem]
  have hsz : w.heap.size < (w.alloc (.cells #[.int .i64 3, .slice ao n cap, .int .i64 a, .int .i64 b] 26)).heap.size := by simp
  have hrA := hr.below hA (Nat.le_refl _)
  have htA := ht.below hA (Nat.le_refl _)
  go_enter Tryd.func7, Tryd.ntmps7
  go_wp2_with fail
  generalize (w.alloc (.cells #[.int .i64 3, .slice ao n cap, .int .i64 a, .int .i64 b] 26)) = W at hA x0 x1 x2 x3 hsz hrA htA ⊢
  refine (HCO.out _ hrA).mono ?_
  rintro e w1 ⟨rfl, hb1⟩
  rw [hc]
  replace hA := below_next hA (Nat.le_refl _) hb1
  replace hrA := hrA.below hb1 (Nat.le_refl _)
  replace htA := htA.below hb1 (Nat.le_refl _)
  replace x0 := keep_cell hb1 (Nat.le_refl _) x0
  replace x1 := keep_cell hb1 (Nat.le_refl _) x1
  replace x2 := keep_cell hb1 (Nat.le_refl _) x2
  replace x3 := keep_cell hb1 (Nat.le_refl _) x3
  have hsz1 : w.heap.size < w1.heap.size := lt_of_cell x0
  clear hb1 HCO
  go_wp2_with fail
  replace hA := hA.drew
  replace htA := htA.below (Below.refl w1.heap.size w1).drew (Nat.le_refl _)
  clear x0 x1
  go_region_held3 (fun w' => w'.cell? ⟨w.heap.size, 2, none⟩ = some (.int .i64 a) ∧ w'.cell? ⟨w.heap.size, 3, none⟩ = some (.int .i64 b))
    (first | (go_split_ands; refine ⟨?_, ?_⟩ <;> exact keep_cell hb4 (Nat.le_refl _) (by assumption)) | (go_split_ands; refine ⟨?_, ?_⟩ <;> exact keep_cell hb3 (Nat.le_refl _) (by assumption)) | (go_split_ands; refine ⟨?_, ?_⟩ <;> exact keep_cell hb2 (Nat.le_refl _) (by assumption)) | go_keep)
    (first | (go_at_call_of 31 (Value.int IntKind.i64 a); refine (showNumber_any a ha.1 (by omega) _ htA).mono ?_; rintro e w2 ⟨rfl, hb2⟩; replace hA := below_next hA (Nat.le_refl _) hb2; replace htA := htA.below hb2 (Nat.le_refl _)) | (go_at_call_of 31 (Value.int IntKind.i64 b); refine (showNumber_any b hb.1 (by omega) _ htA).mono ?_; rintro e w3 ⟨rfl, hb3⟩; replace hA := below_next hA (Nat.le_refl _) hb3; replace htA := htA.below hb3 (Nat.le_refl _)) | (go_at_call 32; refine (join_any w3.heap.size 3 [txAsk, dec a, dec b] _ (fun j u hu => by have := news3 w3 txAsk (dec a) (dec b) j u hu; rw [Addr.add_mid, Nat.zero_add] at this; exact this) (by simp) (by simp) (by simp) hjl).mono ?_; rintro e w4 ⟨rfl, hb4⟩))
  all_goals
    go_wp2
    go_ret
    exact ⟨congrArg (fun x => Ending.returned (txt x)) (join_ask a b), below_next (hA.alloc hA.size _) (Nat.le_refl _) hb4⟩

set_option maxRecDepth 20000 in
set_option maxHeartbeats 4000000 in
theorem implShowC_weigh (ao : Option Addr) (n cap : Nat) (F T G : Nat → Int) (a b : Int) (hn : n ≤ 1048576) (hn9 : n ≤ 100) (hs : Small n F T G) (hc : cmdB 2 n F T G a b = true) (w : World) (ht : Tab w) (hr : Row w ao n F T G) :
    Calls Tryd.prog 7 #[.agg #[.int .i64 2, .slice ao n cap, .int .i64 a, .int .i64 b]] w fun e w' => e = .returned (txt (showW F T G n)) ∧ Below w.heap.size w w' := by
  have HS : Hid (Small n F T G) := hs
  clear hs
  have hA := (Below.refl w.heap.size w).alloc (Nat.le_refl _) (.cells #[.int .i64 2, .slice ao n cap, .int .i64 a, .int .i64 b] 26)
  have HCO : Hid (∀ W, Row W ao n F T G → Calls Tryd.prog 30 #[.agg #[.int .i64 2, .slice ao n cap, .int .i64 a, .int .i64 b]] W fun e w' => e = .returned (.bool (cmdB 2 n F T G a b)) ∧ Below W.heap.size W w') := fun W h => implCommandOk_any 2 ao n cap F T G a b hn W h
  have x0 : (w.alloc (.cells #[.int .i64 2, .slice ao n cap, .int .i64 a, .int .i64 b] 26)).cell? ⟨w.heap.size, 0, none⟩ = some (.int .i64 2) := by simp [go_sem]
  have x1 : (w.alloc (.cells #[.int .i64 2, .slice ao n cap, .int .i64 a, .int .i64 b] 26)).cell? ⟨w.heap.size, 1, none⟩ = some (.slice ao n cap) := by simp [go_sem]
  have x2 : (w.alloc (.cells #[.int .i64 2, .slice ao n cap, .int .i64 a, .int .i64 b] 26)).cell? ⟨w.heap.size, 2, none⟩ = some (.int .i64 a) := by simp [go_sem]
  have x3 : (w.alloc (.cells #[.int .i64 2, .slice ao n cap, .int .i64 a, .int .i64 b] 26)).cell? ⟨w.heap.size, 3, none⟩ = some (.int .i64 b) := by simp [go_sem]
  have hsz : w.heap.size < (w.alloc (.cells #[.int .i64 2, .slice ao n cap, .int .i64 a, .int .i64 b] 26)).heap.size := by simp
  have hrA := hr.below hA (Nat.le_refl _)
  have htA := ht.below hA (Nat.le_refl _)
  go_enter Tryd.func7, Tryd.ntmps7
  go_wp2_with fail
  generalize (w.alloc (.cells #[.int .i64 2, .slice ao n cap, .int .i64 a, .int .i64 b] 26)) = W at hA x0 x1 x2 x3 hsz hrA htA ⊢
  refine (HCO.out _ hrA).mono ?_
  rintro e w1 ⟨rfl, hb1⟩
  rw [hc]
  replace hA := below_next hA (Nat.le_refl _) hb1
  replace hrA := hrA.below hb1 (Nat.le_refl _)
  replace htA := htA.below hb1 (Nat.le_refl _)
  replace x0 := keep_cell hb1 (Nat.le_refl _) x0
  replace x1 := keep_cell hb1 (Nat.le_refl _) x1
  replace x2 := keep_cell hb1 (Nat.le_refl _) x2
  replace x3 := keep_cell hb1 (Nat.le_refl _) x3
  have hsz1 : w.heap.size < w1.heap.size := lt_of_cell x0
  clear hb1 HCO
  have hown0 := ownw_one w1 (base := w1.heap.size) (Nat.le_refl _) txWeigh
  have hA0 := hA.alloc hA.size (.cells #[txt txWeigh] 9)
  have hb0 := (Below.refl w1.heap.size w1).alloc (Nat.le_refl _) (.cells #[txt txWeigh] 9)
  go_wp2
  clear x0 x2 x3
  go_loopw [3, 17] (fun v x wr => ∃ k g c : Nat, k ≤ n ∧ x = .int .i64 k ∧ v = .slice (some ⟨g, 0, none⟩) (wordsW F T G k).length c ∧ OwnW wr w1.heap.size g c (wordsW F T G k) ∧ Below w1.heap.size w1 wr) (fun _ x _ => n - (intOf x).toNat)
  case atStart => exact ⟨0, w1.heap.size, 1, Nat.zero_le _, rfl, rfl, hown0, hb0⟩
  case round =>
    clear hown0 hA0 hb0
    obtain ⟨k, g, c, hk, rfl, rfl, hown, hbel⟩ := hrel
    have hgl := hown.lt
    have hgb := hown.base
    have hwl : (wordsW F T G k).length ≤ 1 + 3 * k := Nat.le_of_eq (wordsW_len F T G k)
    have hB := below_next hA (Nat.le_refl _) hbel
    by_cases hlt : k < n
    rotate_left
    · have e : k = n := by omega
      subst e
      have hlen : (Lib.join (wordsW F T G k) [32]).length ≤ 1000000000000 := by
        rw [join_wordsW]
        have := showW_len k HS.out
        omega
      have hrm := hown.room
      go_wp2_with (go_at_call 32; refine (join_any g c (wordsW F T G k) _ (owns_cells hown) hgl (by omega) hrm hlen).mono ?_; rintro e w5 ⟨rfl, hb5⟩)
      go_ret
      exact ⟨congrArg (fun x => Ending.returned (txt x)) (join_wordsW F T G k), below_next hB (Nat.le_refl _) hb5⟩
    obtain ⟨bb, o, hao, c0, c1, c2⟩ := (hrA.below hbel (Nat.le_refl _)) k hlt
    subst hao
    obtain ⟨⟨f0, f1⟩, ⟨t0, t1⟩, ⟨v0, v1⟩⟩ := HS.out k hlt
    have htB := htA.below hbel (Nat.le_refl _)
    go_wp2
    have hbD : Below w1.heap.size w1 (wr.alloc (.cells #[.int .i64 (F k), .int .i64 (T k), .int .i64 (G k)] 50)).drew := (hbel.alloc (by have := hbel.size; omega) (.cells #[.int .i64 (F k), .int .i64 (T k), .int .i64 (G k)] 50)).drew
    have hox : OwnW (wr.alloc (.cells #[.int .i64 (F k), .int .i64 (T k), .int .i64 (G k)] 50)).drew w1.heap.size g c (wordsW F T G k) := (hown.next ((Below.refl _ _).alloc (Nat.le_refl _) _)).next (Below.refl _ _).drew
    have htx : Tab (wr.alloc (.cells #[.int .i64 (F k), .int .i64 (T k), .int .i64 (G k)] 50)).drew := htA.below hbD (Nat.le_refl _)
    have hwr := hbel.size
    go_region_held3 (fun w' => w'.cell? ⟨wr.heap.size, 0, none⟩ = some (.int .i64 (F k)) ∧ w'.cell? ⟨wr.heap.size, 1, none⟩ = some (.int .i64 (T k)) ∧ w'.cell? ⟨wr.heap.size, 2, none⟩ = some (.int .i64 (G k)))
      (first | (go_split_ands; refine ⟨?_, ?_, ?_⟩ <;> exact hgr6.cell (by assumption) (by simp; omega)) | (go_split_ands; refine ⟨?_, ?_, ?_⟩ <;> exact keep_cell hb7 (Nat.le_refl _) (by assumption)) | (go_split_ands; refine ⟨?_, ?_, ?_⟩ <;> exact keep_cell hb6 (Nat.le_refl _) (by assumption)) | (go_split_ands; refine ⟨?_, ?_, ?_⟩ <;> exact keep_cell hb5 (Nat.le_refl _) (by assumption)) | go_keep)
      (first | (go_at_call_of 31 (Value.int IntKind.i64 (F k)); refine (showNumber_any (F k) f0 (by omega) _ htx).mono ?_; rintro e w5 ⟨rfl, hb5⟩; replace hbD := below_next hbD (Nat.le_refl _) hb5; replace hox := hox.next hb5; replace htx := htx.below hb5 (Nat.le_refl _)) | (go_at_call_of 31 (Value.int IntKind.i64 (T k)); refine (showNumber_any (T k) t0 (by omega) _ htx).mono ?_; rintro e w6 ⟨rfl, hb6⟩; replace hbD := below_next hbD (Nat.le_refl _) hb6; replace hox := hox.next hb6; replace htx := htx.below hb6 (Nat.le_refl _)) | (go_at_call_of 31 (Value.int IntKind.i64 (G k)); refine (showNumber_any (G k) v0 (by omega) _ htx).mono ?_; rintro e w7 ⟨rfl, hb7⟩; replace hbD := below_next hbD (Nat.le_refl _) hb7; replace hox := hox.next hb7; replace htx := htx.below hb7 (Nat.le_refl _)) | (refine step_append_three ?_ (.tmp 21) (.tmp 31) ?_ w1.heap.size g c (wordsW F T G k) ?_ (hox.next ((Below.refl _ _).alloc (Nat.le_refl _) _)) w7.heap.size (dec (F k)) (dec (T k)) (dec (G k)) ?_ (news3 w7 (dec (F k)) (dec (T k)) (dec (G k))) (by omega) (by have := hbD.size; simp; omega) ?_; rfl; rfl; rfl; rfl; intro g' gc' w8 hown8 hgr6))
    have hbE := (hbD.alloc (o := .cells #[txt (dec (F k)), txt (dec (T k)), txt (dec (G k))] 9) hbD.size).grown hgr6 (by have := hbD.size; simp; omega) (fun j e => by cases e; exact hgb)
    go_wp2
    go_roundw
    case rel => exact ⟨k + 1, g', gc', by omega, by go_num, by simp [wordsW], hown8, hbE⟩
    case measure => simp [intOf]; omega

theorem implShowC_any (K : Int) (ao : Option Addr) (n cap : Nat) (F T G : Nat → Int) (a b : Int) (hn : n ≤ 1048576) (w : World) (ht : Tab w) (hr : Row w ao n F T G) :
    Calls Tryd.prog 7 #[.agg #[.int .i64 K, .slice ao n cap, .int .i64 a, .int .i64 b]] w fun e w' => e = .returned (txt (showC K n F T G a b)) ∧ Below w.heap.size w w' := by
  unfold showC
  cases hc : cmdB K n F T G a b
  · exact implShowC_no K ao n cap F T G a b hn hc w hr
  rw [if_pos rfl]
  by_cases k1 : K = 1
  · subst k1
    rw [if_pos rfl]
    exact implShowC_none ao n cap F T G a b hn hc w hr
  rw [if_neg k1]
  by_cases k3 : K = 3
  · subst k3
    rw [if_pos rfl]
    have h := hc
    simp [cmdB, inB_iff] at h
    exact implShowC_ask ao n cap F T G a b hn (by omega) (by omega) hc w ht hr
  rw [if_neg k3]
  by_cases k2 : K = 2
  · subst k2
    have h := hc
    simp [cmdB, batchB] at h
    exact implShowC_weigh ao n cap F T G a b hn (by omega) (batB_small h.1.2.2) hc w ht hr
  · simp [cmdB, k1, k2, k3] at hc

end Go.Proofs.YtcmeppjfjledfacDoor

/-
  Sum, the document's and the program's: both go through the bytes of a text in the same way.
-/
set_option linter.unusedVariables false
set_option linter.unusedSimpArgs false
namespace Go.Proofs.YtcmeppjfjledfacDoor
open Go.RowKit
attribute [local go_sem ↓] Go.wp_at_zero Go.wp_at_succ

def stepS (h : Int) (c : UInt8) : Int := (h * 131 + (c.toNat : Int)) % 1000003
def sumT (l : List UInt8) : Int := l.foldl stepS 5
theorem fold_in : ∀ (l : List UInt8) (h : Int), 0 ≤ h ∧ h < 1000003 → 0 ≤ l.foldl stepS h ∧ l.foldl stepS h < 1000003
  | [], h, hh => hh
  | c :: t, h, hh => by
    simp only [List.foldl_cons]
    exact fold_in t _ (by unfold stepS; omega)
theorem sumT_bd (l : List UInt8) : 0 ≤ sumT l ∧ sumT l < 1000003 := fold_in l 5 (by omega)
theorem take_snoc (s : ByteArray) (k : Nat) (h : k < s.size) : s.data.toList.take (k + 1) = s.data.toList.take k ++ [s[k]] := by
  rw [List.take_succ_eq_append_getElem (by simpa using h)]; rfl
theorem sumT_snoc (l : List UInt8) (c : UInt8) : sumT (l ++ [c]) = (sumT l * 131 + (c.toNat : Int)) % 1000003 := by simp [sumT, List.foldl_append, stepS]
theorem take_all (s : ByteArray) {k : Nat} (h : s.size ≤ k) : s.data.toList.take k = s.data.toList := List.take_of_length_le (by simpa using h)
theorem ret_num {a b : Int} (h : a = b) : Ending.returned (.int .i64 a) = .returned (.int .i64 b) := by rw [h]

set_option maxHeartbeats 800000 in
theorem specSum_any (s : ByteArray) (hs : s.size ≤ 1048576) (w : World) :
    Calls Tryd.prog 15 #[.string s] w fun e w' => e = .returned (.int .i64 (sumT s.data.toList)) ∧ w' = w := by
  go_enter Tryd.func15, Tryd.ntmps15
  go_wp2
  go_loop [3, 4] (fun h i => ∃ k : Nat, k ≤ s.size ∧ i = .int .i64 k ∧ h = .int .i64 (sumT (s.data.toList.take k))) (fun _ i => s.size - (intOf i).toNat)
  case atStart => exact ⟨0, Nat.zero_le _, rfl, rfl⟩
  case round =>
    obtain ⟨k, hk, rfl, rfl⟩ := hrel
    obtain ⟨h0, h1⟩ := sumT_bd (s.data.toList.take k)
    by_cases hlt : k < s.size
    · have HS : Hid (sumT (s.data.toList.take (k + 1)) = (sumT (s.data.toList.take k) * 131 + (s[k].toNat : Int)) % 1000003) := by
        show _ = _
        rw [take_snoc s k hlt, sumT_snoc]
      have hc : s[k].toNat < 256 := s[k].toNat_lt
      go_wp2
      go_round
      case rel => exact ⟨k + 1, by omega, by go_num, by rw [HS.out]⟩
      case measure => simp [intOf]; omega
    · go_wp2
      go_ret
      exact ⟨ret_num (by rw [take_all s (by omega)]), rfl⟩
set_option maxHeartbeats 800000 in
theorem implSum_any (s : ByteArray) (hs : s.size ≤ 1048576) (w : World) :
    Calls Tryd.prog 14 #[.string s] w fun e w' => e = .returned (.int .i64 (sumT s.data.toList)) ∧ w' = w := by
  go_enter Tryd.func14, Tryd.ntmps14
  go_wp2
  go_loop [3, 7] (fun h i => ∃ k : Nat, k ≤ s.size ∧ i = .int .i64 k ∧ h = .int .i64 (sumT (s.data.toList.take k))) (fun _ i => s.size - (intOf i).toNat)
  case atStart => exact ⟨0, Nat.zero_le _, rfl, rfl⟩
  case round =>
    obtain ⟨k, hk, rfl, rfl⟩ := hrel
    obtain ⟨h0, h1⟩ := sumT_bd (s.data.toList.take k)
    by_cases hlt : k < s.size
    · have HS : Hid (sumT (s.data.toList.take (k + 1)) = (sumT (s.data.toList.take k) * 131 + (s[k].toNat : Int)) % 1000003) := by
        show _ = _
        rw [take_snoc s k hlt, sumT_snoc]
      have hc : s[k].toNat < 256 := s[k].toNat_lt
      go_wp2
      go_round
      case rel => exact ⟨k + 1, by omega, by go_num, by rw [HS.out]⟩
      case measure => simp [intOf]; omega
    · go_wp2
      go_ret
      exact ⟨ret_num (by rw [take_all s (by omega)]), rfl⟩

end Go.Proofs.YtcmeppjfjledfacDoor

/-
  The document's draws: a cursor over bytes, and the numbers that it tells. What is drawn is not looked at; that it is in its range, and what memory it turns, is.
-/
set_option linter.unusedVariables false
set_option linter.unusedSimpArgs false
namespace Go.Proofs.YtcmeppjfjledfacDoor
open Go.RowKit
attribute [local go_sem ↓] Go.wp_at_zero Go.wp_at_succ

/-- n bytes lie behind a slice's address, in blocks below base. -/
def ByRow (w : World) (base : Nat) (ao : Option Addr) (n : Nat) : Prop := ∀ k, k < n → ∃ b o v, ao = some ⟨b, o, none⟩ ∧ b < base ∧ w.cell? ⟨b, o + k, none⟩ = some (.int .u8 v) ∧ 0 ≤ v ∧ v ≤ 255
/-- The cells of a cursor. -/
def curV (s : Value) (i h : Int) (j : Nat) : Value := if j = 0 then s else if j = 1 then .int .i64 i else .int .i64 h
/-- Block c is a cursor over n bytes. -/
structure CurAt (w : World) (base c : Nat) (ao : Option Addr) (n cap : Nat) : Prop where
  ge : base ≤ c
  len : n ≤ 4096
  by_ : ByRow w base ao n
  cur : ∃ i h : Int, 0 ≤ i ∧ i ≤ (n : Int) ∧ VHas w c 102 3 (curV (.slice ao n cap) i h)
theorem ByRow.grown {w w' : World} {base : Nat} {ao : Option Addr} {n x : Nat} (h : ByRow w base ao n) (hg : w.grownBy w' (some x)) (hx : base ≤ x) : ByRow w' base ao n := fun k hk => by
  obtain ⟨b, o, v, e, hb, hc, hv⟩ := h k hk
  exact ⟨b, o, v, e, hb, hg.cell hc (by simp; omega), hv⟩
theorem ByRow.below {w w' : World} {base : Nat} {ao : Option Addr} {n B : Nat} (h : ByRow w base ao n) (hb : Below B w w') (hB : base ≤ B) : ByRow w' base ao n := fun k hk => by
  obtain ⟨b, o, v, e, hlt, hc, hv⟩ := h k hk
  exact ⟨b, o, v, e, hlt, by rw [hb.cell (by simp; omega)]; exact hc, hv⟩
theorem CurAt.lt {w : World} {base c : Nat} {ao : Option Addr} {n cap : Nat} (h : CurAt w base c ao n cap) : c < w.heap.size := by
  obtain ⟨_, _, _, _, hv⟩ := h.cur
  exact hv.lt
theorem CurAt.grown {w w' : World} {base c x : Nat} {ao : Option Addr} {n cap : Nat} (h : CurAt w base c ao n cap) (hg : w.grownBy w' (some x)) (hx : base ≤ x) (hne : c ≠ x) : CurAt w' base c ao n cap := by
  obtain ⟨i, hh, h0, h1, hv⟩ := h.cur
  exact ⟨h.ge, h.len, h.by_.grown hg hx, i, hh, h0, h1, hv.grown hg (by simp; exact hne)⟩
theorem CurAt.next {w w' : World} {base c : Nat} {ao : Option Addr} {n cap : Nat} (h : CurAt w base c ao n cap) (hb : Below w.heap.size w w') : CurAt w' base c ao n cap := by
  obtain ⟨i, hh, h0, h1, hv⟩ := h.cur
  have := h.ge
  have := hv.lt
  exact ⟨h.ge, h.len, h.by_.below hb (by omega), i, hh, h0, h1, hv.next hb⟩

theorem and255 (y : Int) : 0 ≤ bits .and .i64 y 255 ∧ bits .and .i64 y 255 ≤ 255 := by
  have h : (BitVec.ofInt 64 y &&& BitVec.ofInt 64 255).toNat ≤ 255 := by
    rw [BitVec.toNat_and]
    exact Nat.le_trans Nat.and_le_right (by decide)
  have e : bits .and .i64 y 255 = IntKind.i64.wrap ((BitVec.ofInt 64 y &&& BitVec.ofInt 64 255).toNat : Int) := rfl
  rw [e, IntKind.wrap_i64]
  omega
theorem cur_h {w : World} {c : Nat} {s : Value} {i h : Int} (hv : VHas w c 102 3 (curV s i h)) (h' : Int) : VHas (w.setCell ⟨c, 2, none⟩ (.int .i64 h')) c 102 3 (curV s i h') :=
  (hv.set 2 _).congr (fun j hj => by
    have : j = 0 ∨ j = 1 ∨ j = 2 := by omega
    rcases this with rfl | rfl | rfl <;> rfl)
theorem cur_i {w : World} {c : Nat} {s : Value} {i h : Int} (hv : VHas w c 102 3 (curV s i h)) (i' : Int) : VHas (w.setCell ⟨c, 1, none⟩ (.int .i64 i')) c 102 3 (curV s i' h) :=
  (hv.set 1 _).congr (fun j hj => by
    have : j = 0 ∨ j = 1 ∨ j = 2 := by omega
    rcases this with rfl | rfl | rfl <;> rfl)
theorem gr_drewN (w : World) (n : Nat) (row : Option Nat) : w.grownBy (w.drewN n) row := ⟨rfl, rfl, rfl, Nat.le_refl _, fun _ _ _ => rfl⟩

set_option maxHeartbeats 2000000 in
theorem l1Byte_any (base c : Nat) (ao : Option Addr) (n cap : Nat) (w : World) (hC : CurAt w base c ao n cap) :
    Calls Tryd.prog 71 #[.pointer (some ⟨c, 0, none⟩)] w fun e w' => ∃ x : Int, e = .returned (.int .i64 x) ∧ 0 ≤ x ∧ x ≤ 255 ∧ CurAt w' base c ao n cap ∧ w.grownBy w' (some c) := by
  obtain ⟨hge, hlen, hby, i, h, hi0, hi1, hv⟩ := hC
  have c0 : w.cell? ⟨c, 0, none⟩ = some (.slice ao n cap) := hv.cell (by omega)
  have c1 : w.cell? ⟨c, 1, none⟩ = some (.int .i64 i) := hv.cell (j := 1) (by omega)
  have c2 : w.cell? ⟨c, 2, none⟩ = some (.int .i64 h) := hv.cell (j := 2) (by omega)
  have z1 := hv.frozen 1
  have z2 := hv.frozen 2
  obtain ⟨k, rfl⟩ : ∃ k : Nat, i = (k : Int) := ⟨i.toNat, by omega⟩
  have hg1 : ∀ v, w.grownBy (w.setCell ⟨c, 2, none⟩ v) (some c) := fun v => gr_setCell w c 2 v
  by_cases hk : k < n
  rotate_left
  · have hk' : ¬ (k : Int) < (n : Int) := by omega
    go_enter Tryd.func71, Tryd.ntmps71
    go_wp2
    go_quiet (fail)
    go_wp2
    go_quiet (fail)
    go_wp2
    go_ret
    refine ⟨_, rfl, (and255 _).1, (and255 _).2, ⟨hge, hlen, ?_, (k : Int), wrap64 (wrap64 (h * 6364136223846793005) + 1442695040888963407), hi0, hi1, ?_⟩, ?_⟩
    · exact ((hby.grown (hg1 _) hge).grown (gr_drewN _ _ _) hge).grown (gr_drewN _ _ _) hge
    · exact ((cur_h hv _).of_block rfl).of_block rfl
    · exact ((hg1 _).trans (gr_drewN _ _ _)).trans (gr_drewN _ _ _)
  have hk' : (k : Int) < (n : Int) := by omega
  obtain ⟨b, o, v, hao, hbb, hcb, hv0, hv1⟩ := hby k hk
  subst hao
  have hne : b ≠ c := by omega
  have hk0 : (0 : Int) ≤ (k : Int) := by omega
  go_enter Tryd.func71, Tryd.ntmps71
  go_wp2
  go_quiet (fail)
  go_wp2
  go_quiet (fail)
  go_wp2
  go_quiet (fail)
  go_wp2
  go_ret
  refine ⟨_, rfl, (and255 _).1, (and255 _).2, ⟨hge, hlen, ?_, ((k + 1 : Nat) : Int), wrap64 (wrap64 (h * 6364136223846793005) + 1442695040888963407), by omega, by omega, ?_⟩, ?_⟩
  · exact ((hby.grown (hg1 _) hge).grown (gr_drewN _ _ _) hge).grown (gr_setCell _ c 1 _) hge
  · exact cur_i ((cur_h hv _).of_block rfl) _
  · exact ((hg1 _).trans (gr_drewN _ _ _)).trans (gr_setCell _ c 1 _)

/-- A number below m is drawn. -/
theorem l1Below_any (base c : Nat) (ao : Option Addr) (n cap : Nat) (m : Int) (hm0 : 1 ≤ m) (hm : m ≤ 256) (w : World) (hC : CurAt w base c ao n cap) :
    Calls Tryd.prog 47 #[.pointer (some ⟨c, 0, none⟩), .int .i64 m] w fun e w' => ∃ x : Nat, e = .returned (.int .i64 (x : Int)) ∧ (x : Int) < m ∧ CurAt w' base c ao n cap ∧ w.grownBy w' (some c) := by
  have hm1 : ¬ m ≤ 0 := by omega
  have hm2 : m ≠ 0 := by omega
  go_enter Tryd.func47, Tryd.ntmps47
  go_wp2_with (go_at_call 71; refine (l1Byte_any base c ao n cap _ hC).mono ?_; rintro e w1 ⟨x, rfl, hx0, hx1, hC1, hg1⟩)
  go_ret
  refine ⟨(x % m).toNat, ?_, ?_, hC1, hg1⟩
  · have := Int.emod_nonneg x hm2
    exact (congrArg (fun z => Ending.returned (.int .i64 z)) (by omega))
  · have h1 := Int.emod_nonneg x hm2
    have h2 := Int.emod_lt_of_pos x (show 0 < m by omega)
    omega

theorem l1Once_any (base c : Nat) (ao : Option Addr) (n cap : Nat) (m : Int) (hm0 : 1 ≤ m) (hm : m ≤ 256) (w : World) (hC : CurAt w base c ao n cap) :
    Calls Tryd.prog 42 #[.pointer (some ⟨c, 0, none⟩), .int .i64 m] w fun e w' => ∃ b : Bool, e = .returned (.bool b) ∧ CurAt w' base c ao n cap ∧ w.grownBy w' (some c) := by
  go_enter Tryd.func42, Tryd.ntmps42
  go_wp2_with (go_at_call 47; refine (l1Below_any base c ao n cap m hm0 hm _ hC).mono ?_; rintro e w1 ⟨x, rfl, hx, hC1, hg1⟩)
  go_ret
  exact ⟨_, rfl, hC1, hg1⟩

end Go.Proofs.YtcmeppjfjledfacDoor

/-
  A new cursor.
-/
set_option linter.unusedVariables false
set_option linter.unusedSimpArgs false
namespace Go.Proofs.YtcmeppjfjledfacDoor
open Go.RowKit Go.Maps
attribute [local go_sem ↓] Go.wp_at_zero Go.wp_at_succ

set_option maxHeartbeats 1000000 in
theorem l1New_any (ao : Option Addr) (n cap : Nat) (hn : n ≤ 4096) (w : World) (hr : ByRow w w.heap.size ao n) :
    Calls Tryd.prog 39 #[.slice ao n cap] w fun e w' => ∃ c, e = .returned (.pointer (some ⟨c, 0, none⟩)) ∧ CurAt w' w.heap.size c ao n cap ∧ Below w.heap.size w w' := by
  go_enter Tryd.func39, Tryd.ntmps39
  go_wp2
  go_loopw [3, 4] (fun x i wr => ∃ (k : Nat) (h : Int), k ≤ n ∧ x = .int .i64 h ∧ i = .int .i64 k ∧ wr = w) (fun _ i _ => n - (intOf i).toNat)
  case atStart => exact ⟨0, _, Nat.zero_le _, rfl, rfl, rfl⟩
  case round =>
    obtain ⟨k, h, hk, rfl, rfl, rfl⟩ := hrel
    by_cases hlt : k < n
    · obtain ⟨b, o, v, hao, hbb, hcb, hv0, hv1⟩ := hr k hlt
      subst hao
      go_wp2
      go_roundw
      case rel => exact ⟨k + 1, _, by omega, rfl, by go_num, by first | trivial | rfl⟩
      case measure => simp [intOf]; omega
    · go_wp2
      go_ret
      refine ⟨_, rfl, ⟨Nat.le_refl _, hn, hr.below ((Below.refl _ _).alloc (Nat.le_refl _) _) (Nat.le_refl _), 0, h, by omega, by omega, ?_⟩, (Below.refl _ _).alloc (Nat.le_refl _) _⟩
      exact ⟨_, Go.Deep.blk_alloc_new _ _, by simp, fun j hj => by
        have : j = 0 ∨ j = 1 ∨ j = 2 := by omega
        rcases this with rfl | rfl | rfl <;> rfl⟩

end Go.Proofs.YtcmeppjfjledfacDoor

/-
  The document's drawn maps: some map comes, in new memory; nothing that lay has turned but the cursor.
-/
set_option linter.unusedVariables false
set_option linter.unusedSimpArgs false
namespace Go.Proofs.YtcmeppjfjledfacDoor
open Go.RowKit Go.Maps
attribute [local go_sem ↓] Go.wp_at_zero Go.wp_at_succ

theorem wfA {x : Int} (h : -9223372036854775808 ≤ x ∧ x ≤ 9223372036854775807) : (Lit.int .i64 x).wf = true := WalkArith.wf_i64 h
theorem wf_wrap (x : Int) : (Lit.int .i64 (IntKind.i64.wrap x)).wf = true := wfA (by rw [IntKind.wrap_i64]; omega)
/-- Some arcs of the call's own, n of them; their numbers fit their kind. -/
def AOwnE (w : World) (base : Nat) (ao : Option Addr) (n cap : Nat) : Prop := ∃ f : Nat → Int, (∀ j, (Lit.int .i64 (f j)).wf = true) ∧ w.ownsRow base 50 3 (.slice ao n cap) n (cellsOf f (n * 3))
theorem AOwnE.grown {w w' : World} {base n cap x : Nat} {ao : Option Addr} (h : AOwnE w base ao n cap) (hg : w.grownBy w' (some x)) (hx : x < base) : AOwnE w' base ao n cap := by
  obtain ⟨f, hw9, hl, h0 | ⟨g, cap', cur, hv, hb, hh, rest⟩⟩ := h
  · exact ⟨f, hw9, hl, .inl h0⟩
  · exact ⟨f, hw9, hl, .inr ⟨g, cap', cur, hv, hb, (hg.block g (Array.getElem?_eq_some_iff.1 hh).1 (by simp; omega)).trans hh, rest⟩⟩
theorem AOwnE.next {w w' : World} {base n cap : Nat} {ao : Option Addr} (h : AOwnE w base ao n cap) (hb : Below w.heap.size w w') : AOwnE w' base ao n cap := by
  obtain ⟨f, hw9, hl, h0 | ⟨g, cap', cur, hv, hb', hh, rest⟩⟩ := h
  · exact ⟨f, hw9, hl, .inl h0⟩
  · exact ⟨f, hw9, hl, .inr ⟨g, cap', cur, hv, hb', (hb.block g (Array.getElem?_eq_some_iff.1 hh).1).trans hh, rest⟩⟩
theorem AOwnE.from {w : World} {base base' n cap : Nat} {ao : Option Addr} (h : AOwnE w base ao n cap) (hb : base' ≤ base) : AOwnE w base' ao n cap := by
  obtain ⟨f, hw9, hl, h0 | ⟨g, cap', cur, hv, hb', rest⟩⟩ := h
  · exact ⟨f, hw9, hl, .inl h0⟩
  · exact ⟨f, hw9, hl, .inr ⟨g, cap', cur, hv, by omega, rest⟩⟩
theorem AOwnE.row {w : World} {base n cap : Nat} {ao : Option Addr} (h : AOwnE w base ao n cap) : ∃ F T G : Nat → Int, Row w ao n F T G ∧ (0 < n → ∃ g, ao = some ⟨g, 0, none⟩ ∧ base ≤ g) := by
  obtain ⟨f, hw9, hl, h0 | ⟨g, cap', cur, hv, hb', hh, h1, h2, h3, h4⟩⟩ := h
  · exact ⟨fun _ => 0, fun _ => 0, fun _ => 0, fun k hk => by omega, fun h => by omega⟩
  · simp at hv
    obtain ⟨rfl, rfl⟩ := hv
    have hc : ∀ j, j < n * 3 → w.cell? ⟨g, j, none⟩ = some (.int .i64 (f j)) := fun j hj => by
      have : (cur.toList.take (n * 3))[j]? = (cellsOf f (n * 3))[j]? := by rw [h4]
      rw [List.getElem?_take_of_lt hj, cellsOf, List.getElem?_map, List.getElem?_range hj] at this
      simp [World.cell?, hh]
      simpa using this
    exact ⟨fun k => f (k * 3), fun k => f (k * 3 + 1), fun k => f (k * 3 + 2), fun k hk => ⟨g, 0, rfl, by simpa using hc (k * 3) (by omega), by simpa using hc (k * 3 + 1) (by omega), by simpa using hc (k * 3 + 2) (by omega)⟩, fun _ => ⟨g, rfl, hb'⟩⟩
theorem AOwnE.rowW {w : World} {base n cap : Nat} {ao : Option Addr} (h : AOwnE w base ao n cap) : ∃ F T G : Nat → Int, Row w ao n F T G ∧ (∀ k, k < n → (Lit.int .i64 (F k)).wf = true ∧ (Lit.int .i64 (T k)).wf = true) ∧ (0 < n → ∃ g, ao = some ⟨g, 0, none⟩ ∧ base ≤ g) := by
  obtain ⟨f, hw9, hl, h0 | ⟨g, cap', cur, hv, hb', hh, h1, h2, h3, h4⟩⟩ := h
  · exact ⟨fun _ => 0, fun _ => 0, fun _ => 0, fun k hk => by omega, fun k hk => by omega, fun h => by omega⟩
  · simp at hv
    obtain ⟨rfl, rfl⟩ := hv
    have hc : ∀ j, j < n * 3 → w.cell? ⟨g, j, none⟩ = some (.int .i64 (f j)) := fun j hj => by
      have : (cur.toList.take (n * 3))[j]? = (cellsOf f (n * 3))[j]? := by rw [h4]
      rw [List.getElem?_take_of_lt hj, cellsOf, List.getElem?_map, List.getElem?_range hj] at this
      simp [World.cell?, hh]
      simpa using this
    exact ⟨fun k => f (k * 3), fun k => f (k * 3 + 1), fun k => f (k * 3 + 2), fun k hk => ⟨g, 0, rfl, by simpa using hc (k * 3) (by omega), by simpa using hc (k * 3 + 1) (by omega), by simpa using hc (k * 3 + 2) (by omega)⟩, fun k _ => ⟨hw9 _, hw9 _⟩, fun _ => ⟨g, rfl, hb'⟩⟩
/-- One arc more. -/
def put3 (f : Nat → Int) (m : Nat) (x y z : Int) (j : Nat) : Int := if j < m then f j else if j = m then x else if j = m + 1 then y else z
theorem put3_wf {f : Nat → Int} {m : Nat} {x y z : Int} (hf : ∀ j, (Lit.int .i64 (f j)).wf = true) (hx : (Lit.int .i64 x).wf = true) (hy : (Lit.int .i64 y).wf = true) (hz : (Lit.int .i64 z).wf = true) (j : Nat) : (Lit.int .i64 (put3 f m x y z j)).wf = true := by
  unfold put3
  split
  · exact hf j
  · split
    · exact hx
    · split
      · exact hy
      · exact hz
theorem cells_put3 (f : Nat → Int) (n : Nat) (x y z : Int) : cellsOf f (n * 3) ++ [.int .i64 x, .int .i64 y, .int .i64 z] = cellsOf (put3 f (n * 3) x y z) ((n + 1) * 3) := by
  have e : (n + 1) * 3 = n * 3 + 1 + 1 + 1 := by omega
  have h0 : cellsOf (put3 f (n * 3) x y z) (n * 3) = cellsOf f (n * 3) := by
    unfold cellsOf
    refine List.map_congr_left fun j hj => ?_
    have := List.mem_range.1 hj
    simp [put3, this]
  have s : ∀ m, cellsOf (put3 f (n * 3) x y z) (m + 1) = cellsOf (put3 f (n * 3) x y z) m ++ [.int .i64 (put3 f (n * 3) x y z m)] := fun m => by
    simp [cellsOf, List.range_succ]
  have g0 : put3 f (n * 3) x y z (n * 3) = x := by simp [put3]
  have g1 : put3 f (n * 3) x y z (n * 3 + 1) = y := by
    unfold put3
    rw [if_neg (by omega), if_neg (by omega), if_pos rfl]
  have g2 : put3 f (n * 3) x y z (n * 3 + 1 + 1) = z := by
    unfold put3
    rw [if_neg (by omega), if_neg (by omega), if_neg (by omega)]
  rw [e, s, s, s, h0, g0, g1, g2]
  simp
theorem news_arc {w : World} {B : Nat} {x y z : Int} {t : TypeId} (hb : w.heap[B]? = some (.cells #[.int .i64 x, .int .i64 y, .int .i64 z] t (0, 0))) : ∀ j u, [Value.int .i64 x, .int .i64 y, .int .i64 z][j]? = some u → w.cell? ((⟨B, 0, none⟩ : Addr).add j) = some u :=
  World.news_of_block hb
theorem one_arc (x y z : Int) : ∀ u ∈ [Value.int .i64 x, .int .i64 y, .int .i64 z], u.oneCell' = true := fun u hu => by
  simp at hu
  rcases hu with rfl | rfl | rfl <;> rfl

/-- The cells of a map in a box. -/
def grV (p : Int) (v : Value) (j : Nat) : Value := if j = 0 then .int .i64 p else v
/-- What stands while a map is drawn: the cursor, the map's box, its arcs. -/
structure DS (w : World) (base c : Nat) (ao : Option Addr) (n cap : Nat) (rb gb : Nat) (p : Int) (go : Option Addr) (k gc : Nat) (W : World) : Prop where
  cur : CurAt W base c ao n cap
  box : VHas W gb 64 2 (grV p (.slice go k gc))
  own : AOwnE W (rb + 1) go k gc
  ne : ∀ a, go = some a → a.block ≠ gb
  res : VHas W rb 64 2 (grV 0 (.slice none 0 0))
  gr : w.grownBy W (some c)
theorem DS.step {w : World} {base c : Nat} {ao : Option Addr} {n cap rb gb : Nat} {p : Int} {go : Option Addr} {k gc : Nat} {W W' : World} (h : DS w base c ao n cap rb gb p go k gc W) (hc : c < rb ∧ rb < gb) (hC : CurAt W' base c ao n cap) (hg : W.grownBy W' (some c)) : DS w base c ao n cap rb gb p go k gc W' :=
  ⟨hC, h.box.grown hg (by simp; omega), h.own.grown hg (by omega), h.ne, h.res.grown hg (by simp; omega), h.gr.trans hg⟩
theorem DS.next {w : World} {base c : Nat} {ao : Option Addr} {n cap rb gb : Nat} {p : Int} {go : Option Addr} {k gc : Nat} {W W' : World} (h : DS w base c ao n cap rb gb p go k gc W) (hb : Below W.heap.size W W') : DS w base c ao n cap rb gb p go k gc W' :=
  ⟨h.cur.next hb, h.box.next hb, h.own.next hb, h.ne, h.res.next hb, h.gr.trans (below_grown hb)⟩
theorem gr_new (w : World) (p : Int) (v : Value) : VHas (w.alloc (.cells #[.int .i64 p, v] 64)) w.heap.size 64 2 (grV p v) :=
  ⟨_, Go.Deep.blk_alloc_new _ _, by simp, fun j hj => by
    have : j = 0 ∨ j = 1 := by omega
    rcases this with rfl | rfl <;> rfl⟩
theorem aown_nil (w : World) (base : Nat) : AOwnE w base none 0 0 := ⟨fun _ => 0, fun _ => wfA (x := 0) (by omega), by simp [cellsOf], .inl ⟨rfl, rfl⟩⟩

/-- A step that turns a block far up alone. -/
theorem gr_far {w W W' : World} {c B : Nat} {row : Option Nat} (h : w.grownBy W (some c)) (hg : W.grownBy W' row) (hr : ∀ g, row = some g → B ≤ g) (hB : w.heap.size ≤ B) : w.grownBy W' (some c) :=
  ⟨hg.os.trans h.os, hg.tape.trans h.tape, hg.output.trans h.output, Nat.le_trans h.size hg.size, fun k hk hne => (hg.block k (Nat.lt_of_lt_of_le hk h.size) (fun e => by have := hr k e.symm; omega)).trans (h.block k hk hne)⟩
theorem CurAt.far {w w' : World} {base c B : Nat} {ao : Option Addr} {n cap : Nat} {row : Option Nat} (h : CurAt w base c ao n cap) (hg : w.grownBy w' row) (hr : ∀ g, row = some g → B ≤ g) (hB : c < B) : CurAt w' base c ao n cap := by
  obtain ⟨i, hh, h0, h1, hv⟩ := h.cur
  have hge := h.ge
  refine ⟨h.ge, h.len, fun k hk => ?_, i, hh, h0, h1, hv.grown hg (fun e => by have := hr c e.symm; omega)⟩
  obtain ⟨b, o, v, e, hb, hc, hv'⟩ := h.by_ k hk
  exact ⟨b, o, v, e, hb, hg.cell hc (fun e => by have := hr b e.symm; omega), hv'⟩
theorem AOwnE.at {w : World} {base n cap x : Nat} {ao : Option Addr} (h : AOwnE w base ao n cap) (e : (Value.slice ao n cap).ownBlock = some x) : base ≤ x ∧ x < w.heap.size := by
  obtain ⟨f, _, hf⟩ := h
  exact World.ownsRow.lt hf x e
theorem own_block {ao : Option Addr} {n cap x : Nat} (e : (Value.slice ao n cap).ownBlock = some x) : ∃ a, ao = some a ∧ a.block = x := by
  cases ao with
  | none => simp [Value.ownBlock] at e
  | some a => exact ⟨a, rfl, by simpa [Value.ownBlock] using e⟩
theorem DS.row {w : World} {base c : Nat} {ao : Option Addr} {n cap rb gb : Nat} {p : Int} {go : Option Addr} {k gc : Nat} {W : World} (h : DS w base c ao n cap rb gb p go k gc W) {x : Nat} (e : (Value.slice go k gc).ownBlock = some x) : rb + 1 ≤ x ∧ x ≠ gb := by
  obtain ⟨a, ha, rfl⟩ := own_block e
  exact ⟨(h.own.at e).1, h.ne a ha⟩
/-- Behind an append to the map's arcs: all but the box's second cell stands. -/
theorem DS.appended {w : World} {base c : Nat} {ao : Option Addr} {n cap rb gb : Nat} {p : Int} {go : Option Addr} {k gc : Nat} {W W' : World} (h : DS w base c ao n cap rb gb p go k gc W) (hc : (c < rb ∧ rb < gb) ∧ w.heap.size ≤ rb) (hg : W.grownBy W' (Value.slice go k gc).ownBlock) {g' k' gc' : Nat} (hown : AOwnE W' (rb + 1) (some ⟨g', 0, none⟩) k' gc') (hat : (Value.slice go k gc).ownBlock = some g' ∨ g' = W.heap.size) :
    DS w base c ao n cap rb gb p (some ⟨g', 0, none⟩) k' gc' (W'.setCell ⟨gb, 1, none⟩ (.slice (some ⟨g', 0, none⟩) k' gc')) := by
  have hr : ∀ g, (Value.slice go k gc).ownBlock = some g → rb + 1 ≤ g := fun g e => (h.row e).1
  have hgl := h.box.lt
  have hng : g' ≠ gb := by
    rcases hat with e | e
    · exact (h.row e).2
    · omega
  have hs := gr_setCell W' gb 1 (.slice (some ⟨g', 0, none⟩) k' gc')
  have hbx := h.box.grown hg (fun e => (h.row e.symm).2 rfl)
  have hge := h.cur.ge
  refine ⟨(h.cur.far hg hr (by omega)).grown hs (by omega) (by omega), (hbx.set 1 _).congr (fun j hj => ?_), ?_, fun a e => by cases e; exact hng, (h.res.grown hg (fun e => by have := hr rb e.symm; omega)).grown hs (by simp; omega), ?_⟩
  · have : j = 0 ∨ j = 1 := by omega
    rcases this with rfl | rfl <;> rfl
  · obtain ⟨f, hw9, hl, h0 | ⟨g, cap', cur, hv, hb, hh, rest⟩⟩ := hown
    · simp at h0
    · have hv' := hv
      simp at hv'
      exact ⟨f, hw9, hl, .inr ⟨g, cap', cur, hv, hb, (hs.block g (Array.getElem?_eq_some_iff.1 hh).1 (by simp; omega)).trans hh, rest⟩⟩
  · have h1 := gr_far h.gr hg hr (by omega)
    exact gr_far (row := some gb) h1 hs (fun g e => by cases e; exact Nat.le_refl _) (by omega)

theorem wp_append_arc {o : Oper} {a : Act} {w : World} {K : Act → World → Prop} {Q : Exit → Act → World → Prop} (s x : Operand)
    (ho : o.op = .call { callee := .builtin .append, args := #[s, x], argTypes := #[24, 24] }) (base k gc : Nat) (go : Option Addr) (hs : a.eval s = .slice go k gc) (hown : AOwnE w base go k gc) (B : Nat) (hx : a.eval x = .slice (some ⟨B, 0, none⟩) 1 1)
    (X Y Z : Int) (hB : w.heap[B]? = some (.cells #[.int .i64 X, .int .i64 Y, .int .i64 Z] 50 (0, 0))) (hk : k ≤ 1000) (hbase : base ≤ w.heap.size) (hX9 : (Lit.int .i64 X).wf = true) (hY9 : (Lit.int .i64 Y).wf = true) (hZ9 : (Lit.int .i64 Z).wf = true)
    (h : ∀ g' gc' w', AOwnE w' base (some ⟨g', 0, none⟩) (k + 1) gc' → w.grownBy w' (Value.slice go k gc).ownBlock → ((Value.slice go k gc).ownBlock = some g' ∨ g' = w.heap.size) → K (a.put o.dst (.slice (some ⟨g', 0, none⟩) (k + 1) gc')) w') : o.wp Tryd.prog a w K Q := by
  obtain ⟨i0, hi0, hz0, hz1, hz2⟩ := info_parts Tryd.infoArc
  obtain ⟨f, hw9, hown⟩ := hown
  refine wp_append_lies w s x 24 ho base 50 i0 _ 3 24 Tryd.underlying24 hi0 hz0 hz1 hz2 rfl (by omega) _ k (cellsOf f (k * 3)) hs hown ⟨B, 0, none⟩ 1 1 [.int .i64 X, .int .i64 Y, .int .i64 Z] hx rfl (news_arc hB) (one_arc _ _ _) (by omega) (by unfold maxLen; omega) (by omega) hbase w.heap.size rfl ?_
  intro g' gc' w' hown' hgrow hat _
  rw [cells_put3] at hown'
  exact h g' gc' w' ⟨_, put3_wf hw9 hX9 hY9 hZ9, hown'⟩ hgrow hat
theorem step_append_arc {ops : Array Oper} {o : Oper} {a : Act} {w : World} {K : Act → World → Prop} {Q : Exit → Act → World → Prop} {E : Prop} (hgd : o.guard = none) (s x : Operand)
    (ho : o.op = .call { callee := .builtin .append, args := #[s, x], argTypes := #[24, 24] }) (base k gc : Nat) (go : Option Addr) (hs : a.eval s = .slice go k gc) (hown : AOwnE w base go k gc) (B : Nat) (hx : a.eval x = .slice (some ⟨B, 0, none⟩) 1 1)
    (X Y Z : Int) (hB : w.heap[B]? = some (.cells #[.int .i64 X, .int .i64 Y, .int .i64 Z] 50 (0, 0))) (hk : k ≤ 1000) (hbase : base ≤ w.heap.size) (hX9 : (Lit.int .i64 X).wf = true) (hY9 : (Lit.int .i64 Y).wf = true) (hZ9 : (Lit.int .i64 Z).wf = true)
    (h : ∀ g' gc' w', AOwnE w' base (some ⟨g', 0, none⟩) (k + 1) gc' → w.grownBy w' (Value.slice go k gc).ownBlock → ((Value.slice go k gc).ownBlock = some g' ∨ g' = w.heap.size) → K (a.put o.dst (.slice (some ⟨g', 0, none⟩) (k + 1) gc')) w') :
    if Region.wanted o (yielded ops a.tmps) = true then Oper.wp Tryd.prog o a w K Q else E := by
  have hw : Region.wanted o (yielded ops a.tmps) = true := by simp [Region.wanted, hgd]
  rw [if_pos hw]
  exact wp_append_arc s x ho base k gc go hs hown B hx X Y Z hB hk hbase hX9 hY9 hZ9 h
theorem wpList_append_arc {ops : Array Oper} {rest : List Oper} {o : Oper} {a : Act} {w : World} {Q : Exit → Act → World → Prop} (hgd : o.guard = none) (s x : Operand)
    (ho : o.op = .call { callee := .builtin .append, args := #[s, x], argTypes := #[24, 24] }) (base k gc : Nat) (go : Option Addr) (hs : a.eval s = .slice go k gc) (hown : AOwnE w base go k gc) (B : Nat) (hx : a.eval x = .slice (some ⟨B, 0, none⟩) 1 1)
    (X Y Z : Int) (hB : w.heap[B]? = some (.cells #[.int .i64 X, .int .i64 Y, .int .i64 Z] 50 (0, 0))) (hk : k ≤ 1000) (hbase : base ≤ w.heap.size) (hX9 : (Lit.int .i64 X).wf = true) (hY9 : (Lit.int .i64 Y).wf = true) (hZ9 : (Lit.int .i64 Z).wf = true)
    (h : ∀ g' gc' w', AOwnE w' base (some ⟨g', 0, none⟩) (k + 1) gc' → w.grownBy w' (Value.slice go k gc).ownBlock → ((Value.slice go k gc).ownBlock = some g' ∨ g' = w.heap.size) → wpList Tryd.prog ops Q rest (a.put o.dst (.slice (some ⟨g', 0, none⟩) (k + 1) gc')) w') : wpList Tryd.prog ops Q (o :: rest) a w :=
  wpList_plain hgd fun _ hK => wp_append_arc s x ho base k gc go hs hown B hx X Y Z hB hk hbase hX9 hY9 hZ9 fun g' gc' w' h1 h2 h3 => hK _ _ (h g' gc' w' h1 h2 h3)

/-- The box of a result, once it is filled. -/
theorem res_cells {w : World} {rb : Nat} (h : VHas w rb 64 2 (grV 0 (.slice none 0 0))) (p : Int) (v : Value) : (w.setCell ⟨rb, 0, none⟩ (.int .i64 p)).cell? ⟨rb, 0, none⟩ = some (.int .i64 p) ∧ ((w.setCell ⟨rb, 0, none⟩ (.int .i64 p)).setCell ⟨rb, 1, none⟩ v).cell? ⟨rb, 0, none⟩ = some (.int .i64 p) ∧ ((w.setCell ⟨rb, 0, none⟩ (.int .i64 p)).setCell ⟨rb, 1, none⟩ v).cell? ⟨rb, 1, none⟩ = some v :=
  ⟨(h.set 0 (.int .i64 p)).cell (j := 0) (by omega), ((h.set 0 (.int .i64 p)).set 1 v).cell (j := 0) (by omega), ((h.set 0 (.int .i64 p)).set 1 v).cell (j := 1) (by omega)⟩
/-- What stands behind a map's return. -/
theorem DS.out {w : World} {base c : Nat} {ao : Option Addr} {n cap rb gb : Nat} {p : Int} {go : Option Addr} {k gc : Nat} {W : World} (h : DS w base c ao n cap rb gb p go k gc W) (hc : (c < rb ∧ rb < gb) ∧ w.heap.size ≤ rb) (v0 v1 : Value) :
    AOwnE ((W.setCell ⟨rb, 0, none⟩ v0).setCell ⟨rb, 1, none⟩ v1) rb go k gc ∧ CurAt ((W.setCell ⟨rb, 0, none⟩ v0).setCell ⟨rb, 1, none⟩ v1) base c ao n cap ∧ w.grownBy ((W.setCell ⟨rb, 0, none⟩ v0).setCell ⟨rb, 1, none⟩ v1) (some c) := by
  have h1 := gr_setCell W rb 0 v0
  have h2 := gr_setCell (W.setCell ⟨rb, 0, none⟩ v0) rb 1 v1
  have hge := h.cur.ge
  refine ⟨((h.own.grown h1 (by omega)).grown h2 (by omega)).from (by omega), (h.cur.grown h1 (by omega) (by omega)).grown h2 (by omega) (by omega), ?_⟩
  exact gr_far (gr_far h.gr h1 (fun g e => by cases e; exact Nat.le_refl _) hc.2) h2 (fun g e => by cases e; exact Nat.le_refl _) hc.2

end Go.Proofs.YtcmeppjfjledfacDoor

/-
  The document's l1Draw: some map comes.
-/
set_option linter.unusedVariables false
set_option linter.unusedSimpArgs false
namespace Go.Proofs.YtcmeppjfjledfacDoor
open Go.RowKit Go.Maps
attribute [local go_sem ↓] Go.wp_at_zero Go.wp_at_succ

set_option maxRecDepth 100000 in
set_option maxHeartbeats 4000000 in
theorem l1Draw_any (base c : Nat) (ao : Option Addr) (n cap : Nat) (w : World) (hC : CurAt w base c ao n cap) :
    Calls Tryd.prog 41 #[.pointer (some ⟨c, 0, none⟩)] w fun e w' => ∃ (p : Nat) (go : Option Addr) (k gc : Nat), e = .returned (.agg #[.int .i64 (p : Int), .slice go k gc]) ∧ (1 ≤ p ∧ p ≤ 9) ∧ k ≤ 81 ∧ AOwnE w' w.heap.size go k gc ∧ CurAt w' base c ao n cap ∧ w.grownBy w' (some c) := by
  have hcl := hC.lt
  have hC0 := hC.next ((Below.refl _ w).alloc (Nat.le_refl _) (.cells #[.int .i64 0, .slice none 0 0] 64))
  go_enter Tryd.func41, Tryd.ntmps41
  go_wp2_with fail
  refine (l1Below_any base c ao n cap 9 (by omega) (by omega) _ hC0).mono ?_
  rintro e w1 ⟨x, rfl, hx, hC1, hg1⟩
  have hrb1 := (gr_new w 0 (.slice none 0 0)).grown hg1 (by simp; omega)
  have hs1 := hrb1.lt
  have hD1 : DS w base c ao n cap w.heap.size w1.heap.size ((x + 1 : Nat) : Int) none 0 0 (w1.alloc (.cells #[.int .i64 ((x + 1 : Nat) : Int), .slice none 0 0] 64)) :=
    ⟨hC1.next ((Below.refl _ w1).alloc (Nat.le_refl _) _), gr_new w1 _ _, aown_nil _ _, (fun a e => by cases e), hrb1.alloc _, ((World.grownBy_alloc w _ _).trans hg1).trans (World.grownBy_alloc w1 _ _)⟩
  have hx9 : x + 1 ≤ 9 := by omega
  have hx1 : 1 ≤ x + 1 := by omega
  go_wp2_with fail
  have hp : (1 + (x : Int)) = ((x + 1 : Nat) : Int) := by omega
  rw [hp]
  clear hp
  generalize x + 1 = p at hD1 hx9 hx1 ⊢
  refine (l1Below_any base c ao n cap 5 (by omega) (by omega) _ hD1.cur).mono ?_
  rintro e w2 ⟨y, rfl, hy, hC2, hg2⟩
  have hD2 := hD1.step ⟨hcl, hs1⟩ hC2 hg2
  clear hD1 hC2 hg2 hC1 hg1 hrb1
  obtain ⟨gb, hgb⟩ : ∃ gb, w1.heap.size = gb := ⟨_, rfl⟩
  rw [hgb] at hD2 hs1 ⊢
  clear hgb
  obtain ⟨i0, hi0, hz0, hz1, hz2⟩ := info_parts Tryd.infoArc
  have hgw : w.heap.size ≤ gb := by omega
  go_wp2_with fail
  go_loopw [5] (fun x wr => ∃ (a k gc : Nat) (go : Option Addr), a ≤ p ∧ k ≤ 9 * a ∧ x = .int .i64 a ∧ DS w base c ao n cap w.heap.size gb p go k gc wr) (fun x _ => p - (intOf x).toNat)
  case atStart => exact ⟨0, 0, 0, none, Nat.zero_le _, Nat.zero_le _, rfl, hD2⟩
  case round =>
    clear hD2
    obtain ⟨a, k, gc, go, ha, hk, rfl, hD⟩ := hrel
    have b0 : wr.cell? ⟨gb, 0, none⟩ = some (.int .i64 (p : Int)) := hD.box.cell (j := 0) (by omega)
    have b1 : wr.cell? ⟨gb, 1, none⟩ = some (.slice go k gc) := hD.box.cell (j := 1) (by omega)
    by_cases hlt : a < p
    rotate_left
    · have hap : a = p := by omega
      subst hap
      have r0 : wr.cell? ⟨w.heap.size, 0, none⟩ = some (.int .i64 0) := hD.res.cell (j := 0) (by omega)
      have r1 : wr.cell? ⟨w.heap.size, 1, none⟩ = some (.slice none 0 0) := hD.res.cell (j := 1) (by omega)
      have z0 := hD.res.frozen 0
      have z1 := hD.res.frozen 1
      obtain ⟨q0, q1, q2⟩ := res_cells hD.res (a : Int) (.slice go k gc)
      obtain ⟨o1, o2, o3⟩ := hD.out ⟨⟨hcl, hs1⟩, Nat.le_refl _⟩ (.int .i64 (a : Int)) (.slice go k gc)
      go_wp2
      simp [bodyPost, results, Tryd.results41, go_sem, q0, q1, q2]
      exact ⟨a, go, k, gc, ⟨rfl, rfl, rfl, rfl⟩, ⟨hx1, hx9⟩, by omega, o1, o2, o3⟩
    have hlt' : (a : Int) < (p : Int) := by omega
    go_wp2
    go_loopw [6] (fun x wr2 => ∃ (b k gc : Nat) (go : Option Addr), b ≤ p ∧ k ≤ 9 * a + b ∧ x = .int .i64 b ∧ DS w base c ao n cap w.heap.size gb p go k gc wr2) (fun x _ => p - (intOf x).toNat)
    case atStart => exact ⟨0, k, gc, go, Nat.zero_le _, by omega, rfl, hD⟩
    case round =>
      clear hD b0 b1 hk k gc go
      obtain ⟨b, k, gc, go, hb, hk, rfl, hD⟩ := hrel
      have b0 : wr.cell? ⟨gb, 0, none⟩ = some (.int .i64 (p : Int)) := hD.box.cell (j := 0) (by omega)
      by_cases hltb : b < p
      rotate_left
      · have hbp : b = p := by omega
        subst hbp
        go_wp2
        go_roundw
        case rel => exact ⟨a + 1, k, gc, go, by omega, by omega, by go_num, hD⟩
        case measure => simp [intOf]; omega
      have hltb' : (b : Int) < (p : Int) := by omega
      by_cases hab : a = b
      · subst hab
        go_wp2
        go_roundw
        case rel => exact ⟨a + 1, k, gc, go, by omega, by omega, by go_num, hD⟩
        case measure => simp [intOf]; omega
      have hab' : ¬ (a : Int) = (b : Int) := by omega
      by_cases hba : b = a + 1
      · subst hba
        clear hab hab' hltb'
        have hltb2 : (a : Int) + 1 < (p : Int) := by omega
        have hab2 : ¬ (a : Int) = (a : Int) + 1 := by omega
        have hab3 : ((a : Int) != (a : Int) + 1) = true := by rw [bne_iff_ne]; omega
        go_wp2_with fail
        refine (l1Once_any base c ao n cap _ (by omega) (by omega) _ hD.cur).mono ?_
        rintro e w9 ⟨bx, rfl, hC9, hg9⟩
        have hD9 := hD.step ⟨hcl, hs1⟩ hC9 hg9
        clear hC9 hg9 hD b0
        cases bx
        · go_wp2_with fail
          refine (l1Once_any base c ao n cap _ (by omega) (by omega) _ hD9.cur).mono ?_
          rintro e w10 ⟨bx, rfl, hC10, hg10⟩
          have hD10 := hD9.step ⟨hcl, hs1⟩ hC10 hg10
          clear hC10 hg10 hD9
          cases bx
          · skip
            have b1 : w10.cell? ⟨gb, 1, none⟩ = some (.slice go k gc) := hD10.box.cell (j := 1) (by omega)
            have hDd := hD10.next (Below.refl _ w10).drew
            clear hD10
            go_wp2
            go_region_law (first | (go_simp; go_at_call 47; refine (l1Below_any base c ao n cap 20 (by omega) (by omega) _ hDd.cur).mono ?_; rintro e w5 ⟨zz, rfl, hzz, hC5, hg5⟩; have hD5 := hDd.step ⟨hcl, hs1⟩ hC5 hg5; have b5 : w5.cell? ⟨gb, 1, none⟩ = some (.slice go k gc) := hD5.box.cell (j := 1) (by omega); have hl5 := hD5.box.lt) | (refine step_append_arc ?_ (.tmp 47) (.tmp 54) ?_ (w.heap.size + 1) k gc go ?_ (hD5.own.next ((Below.refl _ _).alloc (Nat.le_refl _) _)) w5.heap.size ?_ _ _ _ (Go.Deep.blk_alloc_new _ _) (by omega) (by have := hD5.box.lt; simp; omega) (by first | exact wfA (by omega) | exact wf_wrap _) (by first | exact wfA (by omega) | exact wf_wrap _) (by first | exact wfA (by omega) | exact wf_wrap _) ?_; rfl; rfl; rfl; rfl; intro g' gc' w6 hown6 hgrow hr6; have hbx6 := (hD5.box.alloc _).grown hgrow (fun e => (hD5.row e.symm).2 rfl); have hb6 : w6.cell? ⟨gb, 1, none⟩ = some (.slice go k gc) := hbx6.cell (j := 1) (by omega); have hz6 := hbx6.frozen 1))
            all_goals
              have R := (hD5.next ((Below.refl _ _).alloc (Nat.le_refl _) _)).appended ⟨⟨hcl, hs1⟩, Nat.le_refl _⟩ hgrow hown6 hr6
              clear hbx6 hb6 hz6 hD5 hgrow hDd hown6 hC5 hg5
              go_wp2
              go_roundw
              case rel => exact ⟨a + 1 + 1, k + 1, gc', _, by omega, by omega, by go_num, R⟩
              case measure => simp [intOf]; omega
          · go_wp2
            go_roundw
            case rel => exact ⟨a + 1 + 1, k, gc, go, by omega, by omega, by go_num, hD10⟩
            case measure => simp [intOf]; omega
        · skip
          have b1 : w9.cell? ⟨gb, 1, none⟩ = some (.slice go k gc) := hD9.box.cell (j := 1) (by omega)
          have hDd := hD9.next (Below.refl _ w9).drew
          clear hD9
          go_wp2
          go_region_law (first | (go_simp; go_at_call 47; refine (l1Below_any base c ao n cap 20 (by omega) (by omega) _ hDd.cur).mono ?_; rintro e w5 ⟨zz, rfl, hzz, hC5, hg5⟩; have hD5 := hDd.step ⟨hcl, hs1⟩ hC5 hg5; have b5 : w5.cell? ⟨gb, 1, none⟩ = some (.slice go k gc) := hD5.box.cell (j := 1) (by omega); have hl5 := hD5.box.lt) | (refine step_append_arc ?_ (.tmp 47) (.tmp 54) ?_ (w.heap.size + 1) k gc go ?_ (hD5.own.next ((Below.refl _ _).alloc (Nat.le_refl _) _)) w5.heap.size ?_ _ _ _ (Go.Deep.blk_alloc_new _ _) (by omega) (by have := hD5.box.lt; simp; omega) (by first | exact wfA (by omega) | exact wf_wrap _) (by first | exact wfA (by omega) | exact wf_wrap _) (by first | exact wfA (by omega) | exact wf_wrap _) ?_; rfl; rfl; rfl; rfl; intro g' gc' w6 hown6 hgrow hr6; have hbx6 := (hD5.box.alloc _).grown hgrow (fun e => (hD5.row e.symm).2 rfl); have hb6 : w6.cell? ⟨gb, 1, none⟩ = some (.slice go k gc) := hbx6.cell (j := 1) (by omega); have hz6 := hbx6.frozen 1))
          all_goals
            have R := (hD5.next ((Below.refl _ _).alloc (Nat.le_refl _) _)).appended ⟨⟨hcl, hs1⟩, Nat.le_refl _⟩ hgrow hown6 hr6
            clear hbx6 hb6 hz6 hD5 hgrow hDd hown6 hC5 hg5
            go_wp2
            go_roundw
            case rel => exact ⟨a + 1 + 1, k + 1, gc', _, by omega, by omega, by go_num, R⟩
            case measure => simp [intOf]; omega
      · have hba2 : ¬ (b : Int) = (a : Int) + 1 := by omega
        have hab3 : ((a : Int) != (b : Int)) = true := by rw [bne_iff_ne]; omega
        go_wp2_with fail
        refine (l1Once_any base c ao n cap _ (by omega) (by omega) _ hD.cur).mono ?_
        rintro e w9 ⟨bx, rfl, hC9, hg9⟩
        have hD9 := hD.step ⟨hcl, hs1⟩ hC9 hg9
        clear hC9 hg9 hD b0
        cases bx
        · go_wp2
          go_roundw
          case rel => exact ⟨b + 1, k, gc, go, by omega, by omega, by go_num, hD9⟩
          case measure => simp [intOf]; omega
        · skip
          have b1 : w9.cell? ⟨gb, 1, none⟩ = some (.slice go k gc) := hD9.box.cell (j := 1) (by omega)
          have hDd := hD9.next (Below.refl _ w9).drew
          clear hD9
          go_wp2
          go_region_law (first | (go_simp; go_at_call 47; refine (l1Below_any base c ao n cap 20 (by omega) (by omega) _ hDd.cur).mono ?_; rintro e w5 ⟨zz, rfl, hzz, hC5, hg5⟩; have hD5 := hDd.step ⟨hcl, hs1⟩ hC5 hg5; have b5 : w5.cell? ⟨gb, 1, none⟩ = some (.slice go k gc) := hD5.box.cell (j := 1) (by omega); have hl5 := hD5.box.lt) | (refine step_append_arc ?_ (.tmp 47) (.tmp 54) ?_ (w.heap.size + 1) k gc go ?_ (hD5.own.next ((Below.refl _ _).alloc (Nat.le_refl _) _)) w5.heap.size ?_ _ _ _ (Go.Deep.blk_alloc_new _ _) (by omega) (by have := hD5.box.lt; simp; omega) (by first | exact wfA (by omega) | exact wf_wrap _) (by first | exact wfA (by omega) | exact wf_wrap _) (by first | exact wfA (by omega) | exact wf_wrap _) ?_; rfl; rfl; rfl; rfl; intro g' gc' w6 hown6 hgrow hr6; have hbx6 := (hD5.box.alloc _).grown hgrow (fun e => (hD5.row e.symm).2 rfl); have hb6 : w6.cell? ⟨gb, 1, none⟩ = some (.slice go k gc) := hbx6.cell (j := 1) (by omega); have hz6 := hbx6.frozen 1))
          all_goals
            have R := (hD5.next ((Below.refl _ _).alloc (Nat.le_refl _) _)).appended ⟨⟨hcl, hs1⟩, Nat.le_refl _⟩ hgrow hown6 hr6
            clear hbx6 hb6 hz6 hD5 hgrow hDd hown6 hC5 hg5
            go_wp2
            go_roundw
            case rel => exact ⟨b + 1, k + 1, gc', _, by omega, by omega, by go_num, R⟩
            case measure => simp [intOf]; omega

end Go.Proofs.YtcmeppjfjledfacDoor
