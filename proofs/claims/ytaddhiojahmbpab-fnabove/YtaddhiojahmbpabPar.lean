/-
  Parents: the document's and the program's. For every list of at most 2^20 edges.
-/
import Derived.Test.YtaddhiojahmbpabEdOkImpl
import Derived.Test.YtaddhiojahmbpabGrow
import Derived.Test.YtaddhiojahmbpabAns
set_option linter.unusedVariables false
set_option linter.unusedSimpArgs false
namespace Go.Proofs.Ytaddhiojahmbpab
open Go.RowKit
attribute [local go_sem ↓] Go.wp_at_zero Go.wp_at_succ

/-- What the document has found behind d edges, going from the last one. -/
def sp (L H : Nat → Int) (n : Nat) : Nat → Nat → Int
  | 0, _ => -1
  | d + 1, r => if L (n - 1 - d) = (r : Int) then H (n - 1 - d) else sp L H n d r
/-- What the program has found behind k edges, going from the first one. -/
def pr (L H : Nat → Int) : Nat → Nat → Int
  | 0, _ => -1
  | k + 1, r => if L k = (r : Int) ∧ pr L H k r < 0 then H k else pr L H k r
theorem pr_ge {L H : Nat → Int} {n : Nat} (h : ∀ k, k < n → 0 ≤ H k) : ∀ k, k ≤ n → ∀ r, pr L H k r < 0 → pr L H k r = -1
  | 0, _, r, _ => rfl
  | k + 1, hk, r, h1 => by
    unfold pr at h1 ⊢
    have := h k (by omega)
    split
    · next e => rw [if_pos e] at h1; omega
    · next e => rw [if_neg e] at h1; exact pr_ge h k (by omega) r h1
theorem pr_sp {L H : Nat → Int} {n : Nat} (h : ∀ k, k < n → 0 ≤ H k) (r : Nat) : ∀ d, d ≤ n → pr L H n r = if pr L H (n - d) r < 0 then sp L H n d r else pr L H (n - d) r
  | 0, _ => by
    simp only [Nat.sub_zero, sp]
    split
    · next e => exact pr_ge h n (Nat.le_refl _) r e
    · rfl
  | d + 1, hd => by
    rw [pr_sp h r d (by omega)]
    have e : n - d = (n - 1 - d) + 1 := by omega
    have e' : n - (d + 1) = n - 1 - d := by omega
    have hH := h (n - 1 - d) (by omega)
    rw [e, e']
    show (if (if L (n - 1 - d) = (r : Int) ∧ pr L H (n - 1 - d) r < 0 then H (n - 1 - d) else pr L H (n - 1 - d) r) < 0 then sp L H n d r else (if L (n - 1 - d) = (r : Int) ∧ pr L H (n - 1 - d) r < 0 then H (n - 1 - d) else pr L H (n - 1 - d) r)) = (if pr L H (n - 1 - d) r < 0 then (if L (n - 1 - d) = (r : Int) then H (n - 1 - d) else sp L H n d r) else pr L H (n - 1 - d) r)
    by_cases h1 : L (n - 1 - d) = (r : Int) <;> by_cases h2 : pr L H (n - 1 - d) r < 0
    · have : ¬ H (n - 1 - d) < 0 := by omega
      simp [h1, h2, this]
    · simp [h1, h2]
    · simp [h1, h2]
    · simp [h1, h2]
theorem pr_is_sp {L H : Nat → Int} {n : Nat} (h : ∀ k, k < n → 0 ≤ H k) (r : Nat) : pr L H n r = sp L H n n r := by
  rw [pr_sp h r n (Nat.le_refl _)]
  simp [pr]
theorem sp_at {L H : Nat → Int} {n d : Nat} {q : Nat} (h : L (n - 1 - d) = (q : Int)) (j : Nat) : sp L H n (d + 1) j = if j = q then H (n - 1 - d) else sp L H n d j := by
  show (if L (n - 1 - d) = (j : Int) then H (n - 1 - d) else sp L H n d j) = _
  by_cases e : j = q
  · rw [if_pos e, if_pos (by omega)]
  · rw [if_neg e, if_neg (by omega)]
theorem pr_at {L H : Nat → Int} {k : Nat} {q : Nat} (h : L k = (q : Int)) (j : Nat) : pr L H (k + 1) j = if j = q ∧ pr L H k j < 0 then H k else pr L H k j := by
  show (if L k = (j : Int) ∧ pr L H k j < 0 then H k else pr L H k j) = _
  by_cases e : j = q
  · subst e; simp [h]
  · have : ¬ L k = (j : Int) := by omega
    simp [e, this]
/-- How long the list is that Parents answers. -/
def lenP (p : Int) (n : Nat) (L H : Nat → Int) : Nat := if edgesB p n L H then p.toNat else 0
theorem lenP_le (p : Int) (n : Nat) (L H : Nat → Int) : lenP p n L H ≤ 24 := by
  unfold lenP edgesB inB
  split
  · next h => simp at h; omega
  · omega
set_option maxHeartbeats 1000000 in
theorem l4Parents_any (p : Nat) (ao : Option Addr) (n cap : Nat) (L H : Nat → Int) (hp1 : 1 ≤ p) (hp2 : p ≤ 24) (hn : n ≤ 1048576) (he : edB p L H n = true) (w : World) (hr : ERow w ao n L H) :
    Calls Try.prog 19 #[.slice ao n cap, .int .i64 p] w fun e w' => ∃ g c, e = .returned (.slice (some ⟨g, 0, none⟩) p c) ∧ w.heap.size ≤ g ∧ IHas w' g p (sp L H n n) ∧ Below w.heap.size w w' := by
  have HE : Hid (∀ k, k < n → edgeB (L k) (H k) p = true) := edB_at n he
  clear he
  have hO0 : IOwn (w.alloc (.cells #[] 2)) w.heap.size w.heap.size 0 0 (fun _ => -1) := IOwn.empty w (Nat.le_refl _) _
  go_enter Try.func19, Try.ntmps19
  go_wp2
  go_loopw [5, 6] (fun d i wr => ∃ k g c : Nat, k ≤ p ∧ i = .int .i64 k ∧ d = .slice (some ⟨g, 0, none⟩) k c ∧ IOwn wr w.heap.size g c k (fun _ => -1) ∧ Below w.heap.size w wr) (fun _ i _ => p - (intOf i).toNat)
  case atStart => exact ⟨0, w.heap.size, 0, Nat.zero_le _, rfl, rfl, hO0, (Below.refl _ _).alloc (by simp) _⟩
  case round =>
    clear hO0
    obtain ⟨k, g, c, hk, rfl, rfl, hown, hbel⟩ := hrel
    have hgl := hown.lt
    have hgb := hown.base
    by_cases hlt : k < p
    · have hlt' : (k : Int) < (p : Int) := by omega
      go_wp2_with (at_builtin; refine wpList_append_int rfl _ _ rfl w.heap.size g c k (fun _ => -1) rfl (by exact hown.below ((Below.refl _ _).alloc (Nat.le_refl _) _) (by omega)) ⟨wr.heap.size, 0, none⟩ 1 (-1) rfl (by simp [go_sem]) (by omega) (by simp; omega) ?_; intro g' c' w2 hown2 hgrow2 hat2)
      have hB2 := (hbel.alloc (o := .cells #[.int .i64 (-1)] 2) hbel.size).grown hgrow2 (by have := hbel.size; simp; omega) (fun j hj => by cases hj; omega)
      go_wp2
      go_roundw
      case rel => exact ⟨k + 1, g', c', by omega, by go_num, rfl, hown2 _ (fun _ _ => rfl) rfl, hB2⟩
      case measure => simp [intOf]; omega
    have hkp : k = p := by omega
    subst hkp
    have hI0 : IHas wr g k (sp L H n 0) := hown.has.congr (fun _ _ => rfl)
    clear hown
    go_wp2
    go_loopw [7] (fun x wq => ∃ d : Nat, d ≤ n ∧ x = .int .i64 ((n : Int) - 1 - d) ∧ IHas wq g k (sp L H n d) ∧ Below w.heap.size w wq) (fun x _ => (intOf x + 1).toNat)
    case atStart => exact ⟨0, Nat.zero_le _, by simp, hI0, hbel⟩
    case round =>
      clear hI0 hbel
      obtain ⟨d, hd, rfl, hI, hbel⟩ := hrel
      by_cases hlt : d < n
      rotate_left
      · have hdn : d = n := by omega
        subst hdn
        go_wp2
        go_ret
        exact ⟨g, c, rfl, hgb, hI, hbel⟩
      obtain ⟨y, hyd⟩ : ∃ y, y + d + 1 = n := ⟨n - 1 - d, by omega⟩
      have hyy : n - 1 - d = y := by omega
      obtain ⟨b, o, hao, c0, c1⟩ := (hr.below hbel (Nat.le_refl _)) y (by omega)
      have hbg : b < w.heap.size := by
        obtain ⟨b', o', e', k0, _⟩ := hr y (by omega)
        rw [hao] at e'
        simp at e'
        have := lt_of_cell k0
        omega
      have hne1 : b ≠ g := by omega
      have hne2 : g ≠ b := by omega
      clear hbg
      subst hao
      obtain ⟨h0, h1, h2⟩ := edgeB_in (HE.out y (by omega))
      obtain ⟨q, hq⟩ : ∃ q : Nat, L y = (q : Int) := ⟨(L y).toNat, by omega⟩
      have hS : Hid (∀ j, sp L H n (d + 1) j = if j = q then H y else sp L H n d j) := fun j => by
        have := sp_at (L := L) (H := H) (n := n) (d := d) (q := q) (by rw [hyy]; exact hq) j
        rw [hyy] at this
        exact this
      rw [hq] at c0 h0 h1
      clear hq
      have hqn : q < k := by omega
      have d0 := hI.cell hqn
      have z0 := hI.frozen q
      have HR : Hid (IHas (wr.setCell ⟨g, q, none⟩ (.int .i64 (H y))) g k (sp L H n (d + 1))) := (hI.set q (H y)).congr (fun j _ => (hS.out j).symm)
      have HS : Hid (Below w.heap.size w (wr.setCell ⟨g, q, none⟩ (.int .i64 (H y)))) := hbel.setCell (p := ⟨g, q, none⟩) hgb (.int .i64 (H y))
      have hqn' : (q : Int) < (k : Int) := by omega
      have hx : ((n : Int) - 1 - d) = (y : Int) := by omega
      have hy : (y : Int) < (n : Int) := by omega
      have hyn : y < n := by omega
      rw [hx]
      have hf : ((n : Int) - 1 - (d + 1 : Nat)) = (y : Int) - 1 := by omega
      have hd' : d + 1 ≤ n := by omega
      clear hI hx h1 h2 hbel hS hyd hyy hlt hd
      go_wp2
      go_big_region
      go_wp2
      go_roundw
      case rel => exact ⟨d + 1, hd', by rw [hf], IHas.of_block HR.out rfl, HS.out.drew⟩
      case measure => simp [intOf]

end Go.Proofs.Ytaddhiojahmbpab
