/-
  A command as text: the document's text, plainly, and that the document makes just that.
-/
import Derived.Test.YtmnohgcjdhokdajDoorShowB
import Derived.Test.YtmnohgcjdhokdajDoorRdP
import Derived.Test.YtmnohgcjdhokdajDoorCmdS
import Derived.Test.YtmnohgcjdhokdajDoorVh
import Derived.Lib.SlBytesConst
set_option linter.unusedVariables false
set_option linter.unusedSimpArgs false
namespace Go.Proofs.YtmnohgcjdhokdajDoor
open Go.RowKit
attribute [local go_sem ↓] Go.wp_at_zero Go.wp_at_succ

def showW (F T G : Nat → Int) : Nat → List UInt8
  | 0 => txWeigh
  | k + 1 => showW F T G k ++ arcT (F k) (T k) (G k)
def showA (a b : Int) : List UInt8 := txAsk ++ (32 :: (dec a ++ (32 :: dec b)))
/-- The text of a command; empty where it is not right. -/
def showC (K : Int) (n : Nat) (F T G : Nat → Int) (a b : Int) : List UInt8 :=
  if cmdB K n F T G a b = true then (if K = 1 then txNone else if K = 3 then showA a b else showW F T G n) else []
theorem showW_len {F T G : Nat → Int} : ∀ n, Small n F T G → (showW F T G n).length ≤ 4000000 * (n + 1)
  | 0, _ => by simp [showW, txWeigh]
  | n + 1, h => by
    have := showW_len n (fun k hk => h k (by omega))
    obtain ⟨a, b, c⟩ := h n (by omega)
    have := arcT_len a b c
    simp [showW]; omega
theorem showW_pos {F T G : Nat → Int} : ∀ k, 0 < (showW F T G k).length
  | 0 => by simp [showW, txWeigh]
  | k + 1 => by have := showW_pos (F := F) (T := T) (G := G) k; simp [showW]; omega
theorem batB_small {F T G : Nat → Int} {n : Nat} (h : batB F T G n = true) : Small n F T G := fun k hk => by
  have := arcB_iff.1 (batB_at h hk)
  omega
theorem brow_lit (w : World) : BRow (w.alloc (.cells #[.int .u8 119, .int .u8 101, .int .u8 105, .int .u8 103, .int .u8 104] 5 (5, 6))) w.heap.size 5 txWeigh := by
  have hb : (w.alloc (.cells #[.int .u8 119, .int .u8 101, .int .u8 105, .int .u8 103, .int .u8 104] 5 (5, 6))).heap[w.heap.size]? = some (.cells #[.int .u8 119, .int .u8 101, .int .u8 105, .int .u8 103, .int .u8 104] 5 (5, 6)) := heap_alloc_new w _
  generalize (w.alloc (.cells #[.int .u8 119, .int .u8 101, .int .u8 105, .int .u8 103, .int .u8 104] 5 (5, 6))) = X at hb ⊢
  generalize w.heap.size = g at hb ⊢
  refine ⟨by simp [txWeigh], fun j hj => ?_, fun j c hc => ?_⟩
  · have : j = 0 ∨ j = 1 ∨ j = 2 ∨ j = 3 ∨ j = 4 := by omega
    rcases this with rfl | rfl | rfl | rfl | rfl <;> simp [World.cell?, World.frozen?, hb]
  · match j, hc with
    | 0, hc => simp [txWeigh] at hc; subst hc; simp [World.cell?, hb]
    | 1, hc => simp [txWeigh] at hc; subst hc; simp [World.cell?, hb]
    | 2, hc => simp [txWeigh] at hc; subst hc; simp [World.cell?, hb]
    | 3, hc => simp [txWeigh] at hc; subst hc; simp [World.cell?, hb]
    | 4, hc => simp [txWeigh] at hc; subst hc; simp [World.cell?, hb]
    | j + 5, hc => simp [txWeigh] at hc
theorem box4 {w W : World} {a0 a1 a2 a3 : Value} {t : TypeId} (h : Below (w.heap.size + 1) (w.alloc (.cells #[a0, a1, a2, a3] t)) W) :
    W.cell? ⟨w.heap.size, 0, none⟩ = some a0 ∧ W.cell? ⟨w.heap.size, 1, none⟩ = some a1 ∧ W.cell? ⟨w.heap.size, 2, none⟩ = some a2 ∧ W.cell? ⟨w.heap.size, 3, none⟩ = some a3 ∧ w.heap.size < W.heap.size := by
  refine ⟨by rw [h.cell (by simp)]; simp [go_sem], by rw [h.cell (by simp)]; simp [go_sem], by rw [h.cell (by simp)]; simp [go_sem], by rw [h.cell (by simp)]; simp [go_sem], by have := h.size; simp at this; omega⟩

theorem l9Show_none (ao : Option Addr) (n cap : Nat) (a b : Int) (w : World) :
    Calls Tryd.prog 11 #[.agg #[.int .i64 1, .slice ao n cap, .int .i64 a, .int .i64 b]] w fun e w' => e = .returned (txt txNone) ∧ Below w.heap.size w w' := by
  go_enter Tryd.func11, Tryd.ntmps11
  go_wp2
  go_ret
  exact ⟨rfl, (Below.refl _ _).alloc (Nat.le_refl _) _⟩
theorem ask_add (a b : List UInt8) : ((({ data := #[97, 115, 107, 32] } : ByteArray) ++ { data := a.toArray }) ++ { data := #[32] }) ++ { data := b.toArray } = (⟨(txAsk ++ (32 :: (a ++ (32 :: b)))).toArray⟩ : ByteArray) := by
  apply ByteArray.ext
  simp [txAsk]

set_option maxRecDepth 20000 in
set_option maxHeartbeats 2000000 in
theorem l9Show_ask (ao : Option Addr) (n cap : Nat) (a b : Int) (ha : 0 ≤ a ∧ a ≤ 1000000) (hb : 0 ≤ b ∧ b ≤ 1000000) (w : World) :
    Calls Tryd.prog 11 #[.agg #[.int .i64 3, .slice ao n cap, .int .i64 a, .int .i64 b]] w fun e w' => e = .returned (txt (showA a b)) ∧ Below w.heap.size w w' := by
  have hA := (Below.refl w.heap.size w).alloc (Nat.le_refl _) (.cells #[.int .i64 3, .slice ao n cap, .int .i64 a, .int .i64 b] 29)
  have x2 : (w.alloc (.cells #[.int .i64 3, .slice ao n cap, .int .i64 a, .int .i64 b] 29)).cell? ⟨w.heap.size, 2, none⟩ = some (.int .i64 a) := by simp [go_sem]
  have x3 : (w.alloc (.cells #[.int .i64 3, .slice ao n cap, .int .i64 a, .int .i64 b] 29)).cell? ⟨w.heap.size, 3, none⟩ = some (.int .i64 b) := by simp [go_sem]
  have hal := dec_len ha.1 ha.2
  have hbl := dec_len hb.1 hb.2
  have q1 : ¬ 9223372036854775807 < 4 + (dec a).length := by omega
  have q2 : ¬ 9223372036854775807 < 4 + (dec a).length + 1 := by omega
  have q3 : ¬ 9223372036854775807 < 4 + (dec a).length + 1 + (dec b).length := by omega
  go_enter Tryd.func11, Tryd.ntmps11
  go_wp2
  replace hA := hA.drew
  generalize (w.alloc (.cells #[.int .i64 3, .slice ao n cap, .int .i64 a, .int .i64 b] 29)) = W at hA x2 x3 ⊢
  go_region_held3 (fun w' => w'.cell? ⟨w.heap.size, 2, none⟩ = some (.int .i64 a) ∧ w'.cell? ⟨w.heap.size, 3, none⟩ = some (.int .i64 b))
    (first | (go_split_ands; refine ⟨?_, ?_⟩ <;> exact keep_cell hb3 (Nat.le_refl _) (by assumption)) | (go_split_ands; refine ⟨?_, ?_⟩ <;> exact keep_cell hb2 (Nat.le_refl _) (by assumption)) | go_keep)
    (first | (go_at_call_of 19 (Value.int IntKind.i64 a); refine (l1Int_dec a ha.1 ha.2 _).mono ?_; rintro e w2 ⟨rfl, hb2⟩; replace hA := below_next hA (Nat.le_refl _) hb2) | (go_at_call_of 19 (Value.int IntKind.i64 b); refine (l1Int_dec b hb.1 hb.2 _).mono ?_; rintro e w3 ⟨rfl, hb3⟩; replace hA := below_next hA (Nat.le_refl _) hb3))
  all_goals
    go_wp2
    go_ret
    exact ⟨congrArg (fun x => Ending.returned (.string x)) (ask_add (dec a) (dec b)), hA⟩

set_option maxRecDepth 20000 in
set_option maxHeartbeats 2000000 in
theorem l9Show_weigh (ao : Option Addr) (n cap : Nat) (a b : Int) (F T G : Nat → Int) (hn : n ≤ 100) (hs : Small n F T G) (w : World) (hr : Row w ao n F T G) :
    Calls Tryd.prog 11 #[.agg #[.int .i64 2, .slice ao n cap, .int .i64 a, .int .i64 b]] w fun e w' => e = .returned (txt (showW F T G n)) ∧ Below w.heap.size w w' := by
  have hcv : (convert 44 44 (.slice (some ⟨w.heap.size + 1, 0, none⟩) 5 5)).run Tryd.prog ((w.alloc (.cells #[.int .i64 2, .slice ao n cap, .int .i64 a, .int .i64 b] 29)).alloc (.cells #[.int .u8 119, .int .u8 101, .int .u8 105, .int .u8 103, .int .u8 104] 5)) = .ok (.slice (some ⟨w.heap.size + 1, 0, none⟩) 5 5) ((w.alloc (.cells #[.int .i64 2, .slice ao n cap, .int .i64 a, .int .i64 b] 29)).alloc (.cells #[.int .u8 119, .int .u8 101, .int .u8 105, .int .u8 103, .int .u8 104] 5 (5, 6))) := by
    have := Go.Lib.run_convert_bytes_const (P := Tryd.prog) (w.alloc (.cells #[.int .i64 2, .slice ao n cap, .int .i64 a, .int .i64 b] 29)) 44 5 #[.int .u8 119, .int .u8 101, .int .u8 105, .int .u8 103, .int .u8 104] 5 5 Tryd.underlying44 Tryd.underlying5
    rw [World.size_alloc] at this
    exact this
  go_enter Tryd.func11, Tryd.ntmps11
  go_wp2
  clear hcv
  have hb0 := brow_lit (w.alloc (.cells #[.int .i64 2, .slice ao n cap, .int .i64 a, .int .i64 b] 29))
  go_loopw [3, 4] (fun b9 i wr => ∃ k : Nat, k ≤ n ∧ i = .int .i64 k ∧ ∃ g cap', b9 = .slice (some ⟨g, 0, none⟩) (showW F T G k).length cap' ∧ w.heap.size + 1 ≤ g ∧ BRow wr g cap' (showW F T G k) ∧ Below (w.heap.size + 1) (w.alloc (.cells #[.int .i64 2, .slice ao n cap, .int .i64 a, .int .i64 b] 29)) wr) (fun _ i _ => n - (intOf i).toNat)
  case atStart => exact ⟨0, Nat.zero_le _, rfl, w.heap.size + 1, 5, rfl, Nat.le_refl _, by have h9 := hb0; rw [World.size_alloc] at h9; exact h9, (Below.refl _ _).alloc (by simp) _⟩
  case round =>
    clear hb0
    obtain ⟨k, hk, rfl, g, cap', rfl, hg, hb, hbel⟩ := hrel
    obtain ⟨g0, g1, _, _, hsz⟩ := box4 hbel
    by_cases hlt : k < n
    rotate_left
    · have e : k = n := by omega
      subst e
      have hcv := conv_txt hb
      go_wp2
      go_ret
      exact ⟨rfl, unbox hbel (by omega)⟩
    obtain ⟨bb, o, hao, c0, c1, c2⟩ := ((hr.alloc _).below hbel (by simp)) k hlt
    subst hao
    obtain ⟨⟨f0, f1⟩, ⟨t0, t1⟩, ⟨w0, w1'⟩⟩ := hs k hlt
    have hfl := dec_len f0 f1
    have htl := dec_len t0 t1
    have hwl := dec_len w0 w1'
    have hll := showW_len k (fun j hj => hs j (by omega))
    go_wp2
    have hgl : g < wr.heap.size := hb.lt (showW_pos k)
    have q1 : ¬ 9223372036854775807 < 1 + (dec (F k)).length := by omega
    have q2 : ¬ 9223372036854775807 < 1 + (dec (F k)).length + 1 := by omega
    have q3 : ¬ 9223372036854775807 < 1 + (dec (F k)).length + 1 + (dec (T k)).length := by omega
    have q4 : ¬ 9223372036854775807 < 1 + (dec (F k)).length + 1 + (dec (T k)).length + 1 := by omega
    have q5 : ¬ 9223372036854775807 < 1 + (dec (F k)).length + 1 + (dec (T k)).length + 1 + (dec (G k)).length := by omega
    have hA := (hbel.alloc (by omega) (.cells #[.int .i64 (F k), .int .i64 (T k), .int .i64 (G k)] 38)).drew
    have hbA := (hb.below ((Below.refl wr.heap.size wr).alloc (Nat.le_refl _) (.cells #[.int .i64 (F k), .int .i64 (T k), .int .i64 (G k)] 38)).drew (Nat.le_refl _))
    go_region_held3 (fun w' => w'.cell? ⟨wr.heap.size, 0, none⟩ = some (.int .i64 (F k)) ∧ w'.cell? ⟨wr.heap.size, 1, none⟩ = some (.int .i64 (T k)) ∧ w'.cell? ⟨wr.heap.size, 2, none⟩ = some (.int .i64 (G k)))
      (first | (go_split_ands; refine ⟨?_, ?_, ?_⟩ <;> exact keep_cell ‹_› (Nat.le_refl _) (by assumption)) | (go_split_ands; refine ⟨?_, ?_, ?_⟩ <;> exact hgr5.cell (by assumption) (by simp; omega)) | go_keep)
      (first | (go_at_call_of 19 (Value.int IntKind.i64 (F k)); refine (l1Int_dec (F k) f0 f1 _).mono ?_; rintro e w2 ⟨rfl, hb2⟩; replace hbA := hbA.below hb2 (Nat.le_refl _); replace hA := below_next hA (by simp) hb2) | (go_at_call_of 19 (Value.int IntKind.i64 (T k)); refine (l1Int_dec (T k) t0 t1 _).mono ?_; rintro e w2 ⟨rfl, hb2⟩; replace hbA := hbA.below hb2 (Nat.le_refl _); replace hA := below_next hA (by simp) hb2) | (go_at_call_of 19 (Value.int IntKind.i64 (G k)); refine (l1Int_dec (G k) w0 w1' _).mono ?_; rintro e w2 ⟨rfl, hb2⟩; replace hbA := hbA.below hb2 (Nat.le_refl _); replace hA := below_next hA (by simp) hb2) | (refine step_append_txt ?_ (.tmp 35) (.tmp 49) ?_ g cap' (showW F T G k) (arcT (F k) (T k) (G k)) ?_ ?_ hbA ?_ (w.heap.size + 1) hg ?_ ?_; rfl; rfl; rfl; exact congrArg Value.string (arc_add _ _ _); (have := arcT_len ⟨f0, f1⟩ ⟨t0, t1⟩ ⟨w0, w1'⟩; omega); (have := hA.size; simp at this; omega); intro g' cap'' w5 hg' hbB hb5 hgr5))
    go_wp2
    go_roundw
    case rel => exact ⟨k + 1, by omega, by go_num, g', cap'', by simp [showW], hg', hbB, hA.trans hb5⟩
    case measure => simp [intOf]; omega

theorem specShowC_any (K : Int) (ao : Option Addr) (n cap : Nat) (a b : Int) (F T G : Nat → Int) (hn : n ≤ 1048576) (w : World) (hr : Row w ao n F T G) :
    Calls Tryd.prog 5 #[.agg #[.int .i64 K, .slice ao n cap, .int .i64 a, .int .i64 b]] w fun e w' => e = .returned (txt (showC K n F T G a b)) ∧ Below w.heap.size w w' := by
  have hal := (Below.refl w.heap.size w).alloc (Nat.le_refl _) (.cells #[.int .i64 K, .slice ao n cap, .int .i64 a, .int .i64 b] 29)
  have HCO : Hid (∀ W, Row W ao n F T G → Calls Tryd.prog 10 #[.agg #[.int .i64 K, .slice ao n cap, .int .i64 a, .int .i64 b]] W fun e w' => e = .returned (.bool (cmdB K n F T G a b)) ∧ Below W.heap.size W w') := fun W h => specCommandOk_any K ao n cap F T G a b hn W h
  have HL : Hid (cmdB K n F T G a b = true → ∀ W, Row W ao n F T G → Calls Tryd.prog 11 #[.agg #[.int .i64 K, .slice ao n cap, .int .i64 a, .int .i64 b]] W fun e w' => e = .returned (txt (showC K n F T G a b)) ∧ Below W.heap.size W w') := fun hc W h => by
    unfold showC
    rw [if_pos hc]
    by_cases k1 : K = 1
    · subst k1
      rw [if_pos rfl]
      exact l9Show_none ao n cap a b W
    rw [if_neg k1]
    by_cases k3 : K = 3
    · subst k3
      rw [if_pos rfl]
      simp [cmdB, inB_iff] at hc
      exact l9Show_ask ao n cap a b (by omega) (by omega) W
    rw [if_neg k3]
    by_cases k2 : K = 2
    · subst k2
      simp [cmdB, batchB] at hc
      exact l9Show_weigh ao n cap a b F T G (by omega) (batB_small hc.1.2.2) W h
    · simp [cmdB, k1, k2, k3] at hc
  have HE : Hid (cmdB K n F T G a b = false → showC K n F T G a b = []) := fun hc => by unfold showC; rw [hc]; rfl
  have hrA := hr.below hal (Nat.le_refl _)
  go_enter Tryd.func5, Tryd.ntmps5
  go_wp2_with fail
  have v1 : (w.alloc (.cells #[.int .i64 K, .slice ao n cap, .int .i64 a, .int .i64 b] 29)).cell? ⟨w.heap.size, 0, none⟩ = some (.int .i64 K) := by simp [go_sem]
  have v2 : (w.alloc (.cells #[.int .i64 K, .slice ao n cap, .int .i64 a, .int .i64 b] 29)).cell? ⟨w.heap.size, 1, none⟩ = some (.slice ao n cap) := by simp [go_sem]
  have v3 : (w.alloc (.cells #[.int .i64 K, .slice ao n cap, .int .i64 a, .int .i64 b] 29)).cell? ⟨w.heap.size, 2, none⟩ = some (.int .i64 a) := by simp [go_sem]
  have v4 : (w.alloc (.cells #[.int .i64 K, .slice ao n cap, .int .i64 a, .int .i64 b] 29)).cell? ⟨w.heap.size, 3, none⟩ = some (.int .i64 b) := by simp [go_sem]
  generalize (w.alloc (.cells #[.int .i64 K, .slice ao n cap, .int .i64 a, .int .i64 b] 29)) = W at hal hrA v1 v2 v3 v4 ⊢
  refine (HCO.out _ hrA).mono ?_
  rintro e w1 ⟨rfl, hb1⟩
  replace hal := below_next hal (Nat.le_refl _) hb1
  replace hrA := hrA.below hb1 (Nat.le_refl _)
  replace v1 := keep_cell hb1 (Nat.le_refl _) v1
  replace v2 := keep_cell hb1 (Nat.le_refl _) v2
  replace v3 := keep_cell hb1 (Nat.le_refl _) v3
  replace v4 := keep_cell hb1 (Nat.le_refl _) v4
  clear hb1
  cases hc : cmdB K n F T G a b
  · have HE2 := HE.out hc
    go_wp2
    go_ret
    exact ⟨by rw [HE2]; rfl, hal⟩
  · have HL2 : Hid (∀ W, Row W ao n F T G → Calls Tryd.prog 11 #[.agg #[.int .i64 K, .slice ao n cap, .int .i64 a, .int .i64 b]] W fun e w' => e = .returned (txt (showC K n F T G a b)) ∧ Below W.heap.size W w') := HL.out hc
    clear HL HE HCO hc
    go_wp2_with fail
    refine (HL2.out _ hrA).mono ?_
    rintro e w2 ⟨rfl, hb2⟩
    go_wp2
    go_ret
    exact ⟨rfl, below_next hal (Nat.le_refl _) hb2⟩

end Go.Proofs.YtmnohgcjdhokdajDoor
