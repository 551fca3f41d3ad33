/-
  Helpers: Chd, Tri, Clm, MetG, WtOk, ClmA, MtgA, RkIn, MtgP.
-/
import Derived.Test.YthmpliljffmmcaaGreatDoorPack13
import Derived.Test.YthmpliljffmmcaaGreatDoorPack18
import Derived.Test.YthmpliljffmmcaaGreatDoorPack1
import Derived.Test.YthmpliljffmmcaaGreatDoorPack15
import Derived.Test.YthmpliljffmmcaaGreatDoorPack5
import Derived.Deep.RegionHeld3
import Derived.Test.YthmpliljffmmcaaGreatDoorPack3
import Derived.Laws.Rows
import Derived.Test.YthmpliljffmmcaaGreatDoorPack7
import Derived.Test.YthmpliljffmmcaaGreatDoorPack4
set_option linter.unusedVariables false
set_option linter.unusedSimpArgs false
namespace Go.Proofs.YthmpliljffmmcaaGreatDoor
section
open Go.RowKit
attribute [local go_sem ↓] Go.wp_at_zero Go.wp_at_succ
def ChdAt (n : Nat) (L H : Nat → Int) (i k : Nat) : Prop := (∀ j, i < j → j < k → L j = L i) ∧ ∀ j, i < j → j < k → Hs n L H (H i) (H j)
theorem ChdTo.next {n : Nat} {L H : Nat → Int} {i k : Nat} (h : ChdTo n L H i) (hk : ChdAt n L H i k) (he : k = n ∨ L k ≠ L i) (hik : i < k) : ChdTo n L H (i + 1) := fun x hx y h1 h2 h3 => by
  by_cases e : x = i
  · subst e
    by_cases hy : y < k
    · exact hk.2 y h1 hy
    · rcases he with he | he
      · omega
      · exact absurd (h3 k hik (by omega)) he
  · exact h x (by omega) y h1 h2 h3
theorem ChdAt.start (n : Nat) (L H : Nat → Int) (i : Nat) : ChdAt n L H i (i + 1) := ⟨fun j h1 h2 => by omega, fun j h1 h2 => by omega⟩
theorem ChdAt.next {n : Nat} {L H : Nat → Int} {i k : Nat} (h : ChdAt n L H i k) (e : L k = L i) (hs : Hs n L H (H i) (H k)) : ChdAt n L H i (k + 1) :=
  ⟨fun j h1 h2 => by
    by_cases x : j = k
    · subst x; exact e
    · exact h.1 j h1 (by omega),
   fun j h1 h2 => by
    by_cases x : j = k
    · subst x; exact hs
    · exact h.2 j h1 (by omega)⟩
theorem ed_rise {p : Int} {L H : Nat → Int} : ∀ n, edB p L H n = true → ∀ j, j < n → ∀ i, i < j → L i < L j ∨ (L i = L j ∧ H i < H j)
  | 0, _, j, hj, _, _ => by omega
  | n + 1, h, j, hj, i, hi => by
    have hn : edB p L H n = true := by simp [edB] at h; exact h.1
    by_cases e : j = n
    · subst e
      have hup : L (j - 1) < L j ∨ (L (j - 1) = L j ∧ H (j - 1) < H j) := by
        simp [edB] at h
        rcases h.2.2 with h0 | h0
        · omega
        · exact (upB_iff).1 h0
      by_cases e2 : i = j - 1
      · subst e2; exact hup
      · have := ed_rise j hn (j - 1) (by omega) i (by omega)
        omega
    · exact ed_rise n hn j (by omega) i hi
theorem ed_once {p : Int} {n : Nat} {L H : Nat → Int} (h : edB p L H n = true) {i j : Nat} (hi : i < n) (hj : j < n) (h1 : L i = L j) (h2 : H i = H j) : i = j := by
  rcases Nat.lt_trichotomy i j with x | x | x
  · have := ed_rise n h j hj i x; omega
  · exact x
  · have := ed_rise n h i hi j x; omega
def fnd (L H : Nat → Int) (a b : Int) : Nat → Nat
  | 0 => 0
  | k + 1 => if L k = a ∧ H k = b then k else fnd L H a b k
theorem fnd_at {L H : Nat → Int} {a b : Int} : ∀ n, Hs n L H a b → fnd L H a b n < n ∧ L (fnd L H a b n) = a ∧ H (fnd L H a b n) = b
  | 0, ⟨i, hi, _⟩ => by omega
  | n + 1, ⟨i, hi, h1, h2⟩ => by
    unfold fnd
    by_cases e : L n = a ∧ H n = b
    · rw [if_pos e]; exact ⟨by omega, e⟩
    · rw [if_neg e]
      have := fnd_at n ⟨i, by
        by_cases x : i = n
        · subst x; exact absurd ⟨h1, h2⟩ e
        · omega, h1, h2⟩
      exact ⟨by omega, this.2⟩
theorem fnd_is {p : Int} {n : Nat} {L H : Nat → Int} (h : edB p L H n = true) {a b : Int} {q : Nat} (hq : q < n) (h1 : L q = a) (h2 : H q = b) : fnd L H a b n = q := by
  have := fnd_at n ⟨q, hq, h1, h2⟩
  exact ed_once h this.1 hq (by rw [this.2.1, h1]) (by rw [this.2.2, h2])
abbrev Tr := Nat × Nat × Nat
def rowT (n : Nat) (L H : Nat → Int) (i : Nat) : Nat → Nat → List Tr
  | 0, _ => []
  | f + 1, k => if k < n ∧ L k = L i then (i, k, fnd L H (H i) (H k) n) :: rowT n L H i f (k + 1) else []
def allT (n : Nat) (L H : Nat → Int) : Nat → List Tr
  | 0 => []
  | i + 1 => allT n L H i ++ rowT n L H i (n - (i + 1)) (i + 1)
theorem rowT_go {n : Nat} {L H : Nat → Int} {i k : Nat} (hk : k < n) (h : L k = L i) : rowT n L H i (n - k) k = (i, k, fnd L H (H i) (H k) n) :: rowT n L H i (n - (k + 1)) (k + 1) := by
  have : n - k = (n - (k + 1)) + 1 := by omega
  rw [this, rowT, if_pos ⟨hk, h⟩]
theorem rowT_stop {n : Nat} {L H : Nat → Int} {i k : Nat} (h : ¬ (k < n ∧ L k = L i)) : rowT n L H i (n - k) k = [] := by
  cases e : n - k with
  | zero => rfl
  | succ f => rw [rowT, if_neg h]
def TOk (n : Nat) (L H : Nat → Int) (t : Tr) : Prop := t.1 < n ∧ t.2.1 < n ∧ t.2.2 < n ∧ t.1 < t.2.1 ∧ L t.2.1 = L t.1 ∧ L t.2.2 = H t.1 ∧ H t.2.2 = H t.2.1
theorem tok_of {p : Int} {n : Nat} {L H : Nat → Int} (he : edB p L H n = true) (hc : ChdTo n L H n) {i k : Nat} (hi : i < k) (hk : k < n) (h : L k = L i) : TOk n L H (i, k, fnd L H (H i) (H k) n) := by
  have hs := hc i (by omega) k hi hk (fun j h1 h2 => by
    by_cases e : j = k
    · subst e; exact h
    · have a := ed_rise n he j (by omega) i h1
      have b := ed_rise n he k hk j (by omega)
      omega)
  obtain ⟨h1, h2, h3⟩ := fnd_at n hs
  exact ⟨by omega, hk, h1, hi, h, h2, h3⟩
theorem rowT_ok {p : Int} {n : Nat} {L H : Nat → Int} (he : edB p L H n = true) (hc : ChdTo n L H n) {i : Nat} : ∀ f k, i < k → ∀ t ∈ rowT n L H i f k, TOk n L H t
  | 0, k, _, t, ht => by simp [rowT] at ht
  | f + 1, k, hk, t, ht => by
    unfold rowT at ht
    split at ht
    · next h =>
      rcases List.mem_cons.1 ht with rfl | ht
      · exact tok_of he hc hk h.1 h.2
      · exact rowT_ok he hc f (k + 1) (by omega) t ht
    · simp at ht
theorem allT_ok {p : Int} {n : Nat} {L H : Nat → Int} (he : edB p L H n = true) (hc : ChdTo n L H n) : ∀ i, ∀ t ∈ allT n L H i, TOk n L H t
  | 0, t, ht => by simp [allT] at ht
  | i + 1, t, ht => by
    unfold allT at ht
    rcases List.mem_append.1 ht with ht | ht
    · exact allT_ok he hc i t ht
    · exact rowT_ok he hc _ (i + 1) (by omega) t ht
theorem allT_mono {n : Nat} {L H : Nat → Int} {i : Nat} {t : Tr} : ∀ {j}, i ≤ j → t ∈ allT n L H i → t ∈ allT n L H j
  | 0, hi, h => by
    have : i = 0 := by omega
    subst this; exact h
  | j + 1, hi, h => by
    by_cases e : i = j + 1
    · subst e; exact h
    · exact List.mem_append.2 (Or.inl (allT_mono (j := j) (by omega) h))
theorem rowT_len {n : Nat} {L H : Nat → Int} {i : Nat} : ∀ f k, (rowT n L H i f k).length ≤ f
  | 0, k => by simp [rowT]
  | f + 1, k => by
    unfold rowT
    split
    · have := rowT_len (n := n) (L := L) (H := H) (i := i) f (k + 1); simp; omega
    · simp
theorem allT_len {n : Nat} {L H : Nat → Int} : ∀ i, (allT n L H i).length ≤ i * n
  | 0 => by simp [allT]
  | i + 1 => by
    have h1 := allT_len (n := n) (L := L) (H := H) i
    have h2 := rowT_len (n := n) (L := L) (H := H) (i := i) (n - (i + 1)) (i + 1)
    have h3 : (i + 1) * n = i * n + n := by rw [Nat.add_mul, Nat.one_mul]
    simp only [allT, List.length_append]
    omega
theorem row_mem {p : Int} {n : Nat} {L H : Nat → Int} (he : edB p L H n = true) {i k : Nat} (hk : k < n) (hL : L k = L i) : ∀ d k0, k - k0 = d → i < k0 → k0 ≤ k → (i, k, fnd L H (H i) (H k) n) ∈ rowT n L H i (n - k0) k0
  | 0, k0, hd, h1, h2 => by
    have : k0 = k := by omega
    subst this
    rw [rowT_go hk hL]
    exact List.mem_cons_self
  | d + 1, k0, hd, h1, h2 => by
    have hl : L k0 = L i := by
      have a := ed_rise n he k0 (by omega) i h1
      have b := ed_rise n he k hk k0 (by omega)
      omega
    rw [rowT_go (by omega) hl]
    exact List.mem_cons_of_mem _ (row_mem he hk hL d (k0 + 1) (by omega) (by omega) (by omega))
theorem tok_mem {p : Int} {n : Nat} {L H : Nat → Int} (he : edB p L H n = true) {t : Tr} (h : TOk n L H t) : t ∈ allT n L H n := by
  obtain ⟨i, k, e⟩ := t
  obtain ⟨h1, h2, h3, h4, h5, h6, h7⟩ := h
  simp only at h1 h2 h3 h4 h5 h6 h7
  have hf : fnd L H (H i) (H k) n = e := fnd_is he h3 h6 h7
  have := row_mem he h2 h5 (k - (i + 1)) (i + 1) rfl (by omega) (by omega)
  rw [hf] at this
  exact allT_mono (i := i + 1) (by omega) (List.mem_append.2 (.inr this))
def InF (n : Nat) (U : Nat → Int) : Prop := ∀ j, j < n → 0 ≤ U j ∧ U j ≤ 1000000000000
def upT (U D : Nat → Int) (t : Tr) : Int := min 1000000000000 (D t.1 + U t.2.1)
def dnT (U D : Nat → Int) (t : Tr) : Int := min 1000000000000 (D t.2.1 + U t.1)
def okT (U D : Nat → Int) (t : Tr) : Prop := U t.2.2 ≤ upT U D t ∧ D t.2.2 ≤ dnT U D t
end
section
def cl (L H W : Nat → Int) (s : Nat) : Nat → (Nat → Int)
  | 0 => fun r => if r = s then 0 else 1000000000000
  | i + 1 => fun r => if r = (H i).toNat then min (cl L H W s i (H i).toNat) (min 1000000000000 (cl L H W s i (L i).toNat + W i)) else cl L H W s i r
theorem cl_in {m : Nat} {L H W : Nat → Int} (s : Nat) (hW : InF m W) : ∀ i, i ≤ m → ∀ r, 0 ≤ cl L H W s i r ∧ cl L H W s i r ≤ 1000000000000
  | 0, _, r => by unfold cl; split <;> omega
  | i + 1, hi, r => by
    have h1 := cl_in (L := L) (H := H) s hW i (by omega) (H i).toNat
    have h2 := cl_in (L := L) (H := H) s hW i (by omega) (L i).toNat
    have h3 := cl_in (L := L) (H := H) s hW i (by omega) r
    have h4 := hW i (by omega)
    unfold cl
    split <;> omega
theorem cl_far {k m : Nat} {L H W : Nat → Int} {s : Nat} (hs : s < k) (hH : ∀ i, i < m → 0 ≤ H i ∧ H i < (k : Int)) : ∀ i, i ≤ m → ∀ r, k ≤ r → cl L H W s i r = 1000000000000
  | 0, _, r, hr => by unfold cl; rw [if_neg (by omega)]
  | i + 1, hi, r, hr => by
    have h1 := hH i (by omega)
    unfold cl
    rw [if_neg (by omega)]
    exact cl_far hs hH i (by omega) r hr
def mt (A B : Nat → Int) : Nat → Int × Int
  | 0 => (-1, 1000000000000)
  | i + 1 => if min 1000000000000 (A i + B i) < (mt A B i).2 then ((i : Int), min 1000000000000 (A i + B i)) else mt A B i
theorem mt_yes {A B : Nat → Int} {i : Nat} {a b : Int} (h : mt A B i = (a, b)) (hl : min 1000000000000 (A i + B i) < b) : mt A B (i + 1) = ((i : Int), min 1000000000000 (A i + B i)) := by
  unfold mt; rw [h]; simp only; rw [if_pos hl]
theorem mt_no {A B : Nat → Int} {i : Nat} {a b : Int} (h : mt A B i = (a, b)) (hl : ¬ min 1000000000000 (A i + B i) < b) : mt A B (i + 1) = (a, b) := by
  unfold mt; rw [h]; simp only; rw [if_neg hl]
theorem mt_le (A B : Nat → Int) : ∀ i, (mt A B i).2 ≤ 1000000000000
  | 0 => by unfold mt; simp
  | i + 1 => by
    have := mt_le A B i
    unfold mt
    split
    · simp only; omega
    · exact this
theorem mt_far {A B : Nat → Int} {k : Nat} (hA : ∀ r, k ≤ r → A r = 1000000000000) (hB : ∀ r, 0 ≤ B r) : ∀ j, mt A B (k + j) = mt A B k
  | 0 => rfl
  | j + 1 => by
    have h := mt_far hA hB j
    have h1 := mt_le A B (k + j)
    have h2 := hA (k + j) (by omega)
    have h3 := hB (k + j)
    rw [← h, ← Nat.add_assoc]
    show (if _ then _ else _) = _
    rw [if_neg (by omega)]
def TOld (k m : Nat) (L H : Nat → Int) (u : Nat) (U : Nat → Int) (v : Nat) (V : Nat → Int) : Prop := edgesB (k : Int) m L H = true ∧ u = m ∧ v = m ∧ InF m U ∧ InF m V
theorem told_k {k m : Nat} {L H : Nat → Int} {u : Nat} {U : Nat → Int} {v : Nat} {V : Nat → Int} (h : TOld k m L H u U v V) : 1 ≤ k ∧ k ≤ 24 := by
  have := h.1
  simp [edgesB, inB] at this
  omega
theorem told_e {k m : Nat} {L H : Nat → Int} {u : Nat} {U : Nat → Int} {v : Nat} {V : Nat → Int} (h : TOld k m L H u U v V) : ∀ i, i < m → 0 ≤ L i ∧ L i < H i ∧ H i < (k : Int) := fun i hi => by
  have := h.1
  simp [edgesB] at this
  exact edgeB_in (edB_at m this.2 i hi)
def RIn (k : Nat) (r : Int) : Prop := 0 ≤ r ∧ r < (k : Int)
open Classical in
noncomputable def mtg (k m : Nat) (L H : Nat → Int) (u : Nat) (U : Nat → Int) (v : Nat) (V : Nat → Int) (a b : Int) : Int × Int :=
  if TOld k m L H u U v V ∧ RIn k a ∧ RIn k b then mt (cl L H U a.toNat m) (cl L H V b.toNat m) k else (-1, 1000000000000)
theorem mtg_yes {k m : Nat} {L H : Nat → Int} {u : Nat} {U : Nat → Int} {v : Nat} {V : Nat → Int} {a b : Int} (h : TOld k m L H u U v V) (ha : RIn k a) (hb : RIn k b) : mtg k m L H u U v V a b = mt (cl L H U a.toNat m) (cl L H V b.toNat m) k := by unfold mtg; rw [if_pos ⟨h, ha, hb⟩]
theorem mtg_no {k m : Nat} {L H : Nat → Int} {u : Nat} {U : Nat → Int} {v : Nat} {V : Nat → Int} {a b : Int} (h : ¬ (TOld k m L H u U v V ∧ RIn k a ∧ RIn k b)) : mtg k m L H u U v V a b = (-1, 1000000000000) := by unfold mtg; rw [if_neg h]
end
section
open Go.RowKit Go.Deep Go.Joins
attribute [local go_sem ↓] Go.wp_at_zero Go.wp_at_succ
theorem box2m {w W : World} {a0 a1 c0 c1 : Value} {s t : TypeId} (h : Below (w.heap.size + 2) ((w.alloc (.cells #[a0, a1] s)).alloc (.cells #[c0, c1] t)) W) :
    (W.cell? ⟨w.heap.size, 0, none⟩ = some a0 ∧ W.cell? ⟨w.heap.size, 1, none⟩ = some a1) ∧ (W.cell? ⟨w.heap.size + 1, 0, none⟩ = some c0 ∧ W.cell? ⟨w.heap.size + 1, 1, none⟩ = some c1) ∧ w.heap.size + 2 ≤ W.heap.size := by
  obtain ⟨h1, h2, _, h4⟩ := box22 h
  exact ⟨h1, h2, h4⟩
end
section
open Go.RowKit
attribute [local go_sem ↓] Go.wp_at_zero Go.wp_at_succ
set_option maxHeartbeats 1000000 in
theorem weightsOk_any (ao : Option Addr) (n cap : Nat) (f : Nat → Int) (c : Nat) (hn : n ≤ 1048576) (hc : c ≤ 1048576) (w : World) (hr : IRow w ao n f) :
    Calls Tryz.prog 152 #[.slice ao n cap, .int .i64 (c : Int)] w fun e w' => BAns e (n = c ∧ InF c f) ∧ w' = w := by
  by_cases hnc : n = c
  rotate_left
  · have HN : Hid (¬ (n = c ∧ InF c f)) := fun h => hnc h.1
    have hnc' : ¬ (n : Int) = (c : Int) := by omega
    go_enter Tryz.func152, Tryz.ntmps152
    go_wp2
    go_ret
    exact ⟨bans_no HN.out, rfl⟩
  subst hnc
  refine (show Calls Tryz.prog 152 #[.slice ao n cap, .int .i64 (n : Int)] w (fun e w' => BAns e (InF n f) ∧ w' = w) from ?_).mono (fun e w' ⟨⟨b, h1, h2⟩, h3⟩ => ⟨⟨b, h1, h2.trans ⟨fun h => ⟨rfl, h⟩, fun h => h.2⟩⟩, h3⟩)
  go_enter Tryz.func152, Tryz.ntmps152
  go_wp2
  go_loop [13] (fun x => ∃ k : Nat, k ≤ n ∧ x = .int .i64 k ∧ InF k f) (fun x => n - (intOf x).toNat)
  case atStart => exact ⟨0, Nat.zero_le _, rfl, fun i hi => by omega⟩
  case round =>
    obtain ⟨k, hk, rfl, hall⟩ := hrel
    have HA : Hid (InF k f) := hall
    clear hall
    by_cases hlt : k < n
    rotate_left
    · have hkn : k = n := by omega
      subst hkn
      go_wp2
      go_ret
      exact ⟨bans_yes HA.out, rfl⟩
    obtain ⟨b, o, hao, c0⟩ := hr k hlt
    subst hao
    have hk1 : (0 : Int) ≤ (k : Int) := by omega
    have hk2 : (k : Int) < (n : Int) := by omega
    by_cases h1 : f k < 0
    · have HN : Hid (¬ InF n f) := fun h => by have := h k hlt; omega
      go_wp2
      go_ret
      exact ⟨bans_no HN.out, rfl⟩
    by_cases h2 : 1000000000000 < f k
    · have HN : Hid (¬ InF n f) := fun h => by have := h k hlt; omega
      go_wp2
      go_ret
      exact ⟨bans_no HN.out, rfl⟩
    have HI : Hid (InF (k + 1) f) := fun i hi => by
      by_cases e : i = k
      · subst e; omega
      · exact HA.out i (by omega)
    go_wp2
    go_roundw
    case rel => exact ⟨k + 1, by omega, by go_num, HI.out⟩
    case measure => simp [intOf]; omega
end
section
open Go.RowKit Go.Deep Go.Joins
attribute [local go_sem ↓] Go.wp_at_zero Go.wp_at_succ
def arr (f : Nat → Int) : Array Value := ((List.range 24).map fun j => Value.int .i64 (f j)).toArray
theorem arr_size (f : Nat → Int) : (arr f).size = 24 := by simp [arr]
theorem arr_at (f : Nat → Int) {j : Nat} (hj : j < 24) : (arr f)[j]? = some (.int .i64 (f j)) := by
  simp only [arr, List.getElem?_toArray, List.getElem?_map, List.getElem?_range hj, Option.map_some]
theorem arr_ext {f g : Nat → Int} (h : ∀ j, j < 24 → f j = g j) : arr f = arr g := by
  simp only [arr]
  congr 1
  apply List.map_congr_left
  intro j hj
  rw [h j (List.mem_range.1 hj)]
theorem arr_set (f : Nat → Int) {i : Nat} (v : Int) (hi : i < 24) : (arr f).setIfInBounds i (.int .i64 v) = arr (fun j => if j = i then v else f j) := by
  apply Array.ext_getElem?
  intro j
  by_cases hj : j < 24
  · rw [arr_at _ hj, Array.getElem?_setIfInBounds]
    by_cases e : i = j
    · subst e
      rw [if_pos rfl, if_pos (by rw [arr_size]; exact hi)]
      simp
    · rw [if_neg e, arr_at _ hj]
      have : j ≠ i := fun h => e h.symm
      simp [this]
  · rw [Array.getElem?_eq_none (by rw [Array.size_setIfInBounds, arr_size]; omega), Array.getElem?_eq_none (by rw [arr_size]; omega)]
def AHas (w : World) (b : Nat) (f : Nat → Int) : Prop := w.heap[b]? = some (.cells (arr f) 199 (0, 0))
theorem AHas.cell {w : World} {b : Nat} {f : Nat → Int} (h : AHas w b f) {j : Nat} (hj : j < 24) : w.cell? ⟨b, j, none⟩ = some (.int .i64 (f j)) := by
  rw [cell_of_row w b j _ _ _ h, arr_at f hj]
theorem AHas.frozen {w : World} {b : Nat} {f : Nat → Int} (h : AHas w b f) (j : Nat) : w.frozen? ⟨b, j, none⟩ = false := frozen_of_row w b j _ _ h
theorem AHas.lt {w : World} {b : Nat} {f : Nat → Int} (h : AHas w b f) : b < w.heap.size := (Array.getElem?_eq_some_iff.1 h).1
theorem AHas.of_block {w w' : World} {b : Nat} {f : Nat → Int} (h : AHas w b f) (e : w'.heap[b]? = w.heap[b]?) : AHas w' b f := e.trans h
theorem AHas.below {w w' : World} {b B : Nat} {f : Nat → Int} (h : AHas w b f) (hb : Below B w w') (hB : b < B) : AHas w' b f := h.of_block (hb.block b hB)
theorem AHas.congr {w : World} {b : Nat} {f g : Nat → Int} (h : AHas w b f) (e : ∀ j, j < 24 → f j = g j) : AHas w b g := by
  unfold AHas; rw [← arr_ext e]; exact h
theorem AHas.set {w : World} {b : Nat} {f : Nat → Int} (h : AHas w b f) (i : Nat) (v : Int) (hi : i < 24) : AHas (w.setCell ⟨b, i, none⟩ (.int .i64 v)) b (fun j => if j = i then v else f j) := by
  unfold AHas
  rw [heap_setCell_same w b i _ _ _ h, arr_set f v hi]
theorem arr_one (f : Nat → Int) : (arr f).all (·.oneCell') = true := by
  simp [arr, Value.oneCell']
theorem Tryz.undArr : Tryz.prog.underlying 199 = some (.array 24 2) := by kernel_rfl
theorem Tryz.infoArr (f : Nat → Int) : (Tryz.prog.info? 199).map (·.size) = some (arr f).size := by rw [arr_size]; kernel_rfl
theorem AHas.row {w : World} {b : Nat} {f : Nat → Int} (h : AHas w b f) (g : Nat → Int) : AHas (w.setRow b (arr g)) b g := setRow_heap w b _ _ _ _ h
theorem setRow_below {B : Nat} {w W : World} {g : Nat} (h : Below B w W) (hg : B ≤ g) (cs : Array Value) : Below B w (W.setRow g cs) :=
  ⟨h.os, h.tape, h.output, by rw [setRow_size]; exact h.size, fun k hk => (setRow_other W g k cs (by omega)).trans (h.block k hk)⟩
theorem ahas_new (w : World) : AHas (w.alloc (.cells (arr (fun _ => 0)) 199)) w.heap.size (fun _ => 0) := heap_alloc_new w _
set_option maxHeartbeats 2000000 in
theorem climbOk_any (po : Option Addr) (k pcap : Nat) (eo : Option Addr) (m ecap : Nat) (L H : Nat → Int) (uo : Option Addr) (u ucap : Nat) (U : Nat → Int) (vo : Option Addr) (v vcap : Nat) (V : Nat → Int) (r : Int) (hk : k ≤ 1048576) (hm : m ≤ 1048576) (hu : u ≤ 1048576) (hv : v ≤ 1048576) (w : World) (he : ERow w eo m L H) (hU : IRow w uo u U) (hV : IRow w vo v V) :
    Calls Tryz.prog 147 #[.agg #[.slice po k pcap, .slice eo m ecap], .agg #[.slice uo u ucap, .slice vo v vcap], .int .i64 r] w fun e w' => BAns e (TOld k m L H u U v V ∧ RIn k r) ∧ Below w.heap.size w w' := by
  go_enter Tryz.func147, Tryz.ntmps147
  go_wp2_with fail
  refine (edgesOk_any (k : Int) eo m ecap L H hm _ ((he.alloc _).alloc _)).mono ?_
  rcases Bool.eq_false_or_eq_true (edgesB (k : Int) m L H) with h | h
  rotate_left
  · rw [h]
    rintro e w1 ⟨rfl, hb1⟩
    have HN : Hid (¬ (TOld k m L H u U v V ∧ RIn k r)) := fun x => by rw [x.1.1] at h; cases h
    go_wp2
    go_ret
    exact ⟨bans_no HN.out, unbox2 hb1 (by simp; omega)⟩
  rw [h]
  rintro e w1 ⟨rfl, hb1⟩
  have hA1 := hb1.mono (B' := w.heap.size + 2) (by simp)
  obtain ⟨⟨q0, q1⟩, ⟨q2, q3⟩, q6⟩ := box2m hA1
  clear hb1
  go_wp2_with fail
  refine (weightsOk_any uo u ucap U m hu hm _ (((hU.alloc _).alloc _).below hA1 (by simp))).mono ?_
  rintro e w2 ⟨⟨b, rfl, hb⟩, hw2⟩
  have hw2' := hw2.symm
  subst hw2'
  clear hw2
  cases b
  · have HN : Hid (¬ (TOld k m L H u U v V ∧ RIn k r)) := fun x => by have := hb.2 ⟨x.1.2.1, x.1.2.2.2.1⟩; cases this
    clear hb
    go_wp2
    go_ret
    exact ⟨bans_no HN.out, unbox2 hA1 (by omega)⟩
  have HU : Hid (u = m ∧ InF m U) := hb.1 rfl
  clear hb
  go_wp2_with fail
  refine (weightsOk_any vo v vcap V m hv hm _ (((hV.alloc _).alloc _).below hA1 (by simp))).mono ?_
  rintro e w2 ⟨⟨b, rfl, hb⟩, hw2⟩
  have hw2' := hw2.symm
  subst hw2'
  clear hw2
  cases b
  · have HN : Hid (¬ (TOld k m L H u U v V ∧ RIn k r)) := fun x => by have := hb.2 ⟨x.1.2.2.1, x.1.2.2.2.2⟩; cases this
    clear hb
    go_wp2
    go_ret
    exact ⟨bans_no HN.out, unbox2 hA1 (by omega)⟩
  have HV : Hid (v = m ∧ InF m V) := hb.1 rfl
  have HT : Hid (TOld k m L H u U v V) := ⟨h, HU.out.1, HV.out.1, HU.out.2, HV.out.2⟩
  clear hb
  go_wp2_with fail
  refine (placeOk_any r (k : Int) _).mono ?_
  rintro e w2 ⟨rfl, hw2⟩
  have hw2' := hw2.symm
  subst hw2'
  clear hw2
  go_wp2
  go_ret
  refine ⟨⟨_, rfl, ?_⟩, unbox2 hA1 (by omega)⟩
  have := HT.out
  simp [inB, RIn, this]
  omega
set_option maxRecDepth 100000 in
set_option maxHeartbeats 4000000 in
theorem climbFn_any (l q : Nat) (x : Int) (b : Nat) (f : Nat → Int) (hl : l < 24) (hh : q < 24) (hf : ∀ j, 0 ≤ f j ∧ f j ≤ 1000000000000) (hx : 0 ≤ x ∧ x ≤ 1000000000000) (w : World) (hA : AHas w b f) :
    Calls Tryz.prog 153 #[.agg #[.int .i64 (l : Int), .int .i64 (q : Int)], .int .i64 x, .pointer (some ⟨b, 0, none⟩)] w fun e w' => (∃ v, e = .returned v) ∧ AHas w' b (fun j => if j = q then min (f q) (min 1000000000000 (f l + x)) else f j) ∧ Turns w w' [b] := by
  have a0 := hA.cell hl
  have a1 := hA.cell hh
  have z0 := hA.frozen l
  have z1 := hA.frozen q
  have hbl := hA.lt
  have l1 : (l : Int) < 24 := by omega
  have l2 : (q : Int) < 24 := by omega
  have c0 := hf l
  have PK : Hid (AHas w b f) := hA
  clear hA
  go_enter Tryz.func153, Tryz.ntmps153
  go_wp2_with fail
  refine wp_region_last_lit 14 (by kernel_rfl) (by rfl) (by rfl) (by rfl) (by kernel_rfl) (by kernel_rfl) (by kernel_rfl) (by rfl) ?_
  simp only [List.take_succ_cons, List.take_zero, List.cons_append, List.nil_append]
  repeat (go_big_quiet_step (first | exact Calls.quiet_of_same (plus_any _ _ c0.1 c0.2 hx.1 hx.2 _)))
  refine wpQuiet_nil ?_
  intro w7 hw7
  obtain ⟨nq, rfl⟩ := hw7
  have al := (Below.refl w.heap.size w).alloc nl (.cells #[.int .i64 (l : Int), .int .i64 (q : Int)] 94)
  have hA6 := PK.out.below al hbl
  have hA7 := hA6.below (below_drewN (Below.refl _ _) nq) hA6.lt
  have hB7 := Turns.of_below (below_drewN al nq) nl [b]
  clear PK al hA6 a0 a1 z0 z1
  generalize (w.alloc (.cells #[.int .i64 (l : Int), .int .i64 (q : Int)] 94)).drewN nq = W7 at hA7 hB7 ⊢
  have s0 := hA7.cell hh
  have s1 := hA7.frozen q
  have R : Hid (∀ v, v = min (f q) (min 1000000000000 (f l + x)) → AHas (W7.setCell ⟨b, q, none⟩ (.int .i64 v)) b (fun j => if j = q then min (f q) (min 1000000000000 (f l + x)) else f j)) := fun v hv => (hA7.set q v hh).congr (fun j _ => by rw [hv])
  have B : Hid (∀ v, Turns w (W7.setCell ⟨b, q, none⟩ (.int .i64 v)) [b]) := fun v => hB7.trans (Turns.of_grown (gr_setCell _ _ _ _))
  clear hA7 hB7
  go_simp
  go_wp2 <;>
  · go_end0
    exact ⟨⟨_, rfl⟩, R.out _ (by omega), B.out _⟩
set_option maxRecDepth 100000 in
set_option maxHeartbeats 4000000 in
theorem sumsFrom_any (eo : Option Addr) (k m ecap : Nat) (L H : Nat → Int) (uo : Option Addr) (ucap : Nat) (U : Nat → Int) (r : Nat) (hr : r < k) (hk : k ≤ 24) (hE : ∀ i, i < m → 0 ≤ L i ∧ L i < H i ∧ H i < (k : Int)) (hI : InF m U) (hm : m ≤ 1048576) (w : World) (he : ERow w eo m L H) (hU : IRow w uo m U) :
    Calls Tryz.prog 148 #[.int .i64 r, .slice eo m ecap, .slice uo m ucap] w fun e w' => e = .returned (.agg (arr (cl L H U r m))) ∧ Below w.heap.size w w' := by
  have HI : Hid (InF m U ∧ ∀ i, i < m → 0 ≤ L i ∧ L i < H i ∧ H i < (k : Int)) := ⟨hI, hE⟩
  clear hI hE
  go_enter Tryz.func148, Tryz.ntmps148
  go_wp2_with fail
  have A0 : AHas ((w.alloc (.cells (arr (fun _ => 0)) 199)).alloc (.cells (arr (fun _ => 0)) 199)) (w.heap.size + 1) (fun _ => 0) := heap_alloc2_new w _ _
  have R0 : AHas ((w.alloc (.cells (arr (fun _ => 0)) 199)).alloc (.cells (arr (fun _ => 0)) 199)) w.heap.size (fun _ => 0) := heap_alloc2_old w _ _
  have hB0 : Below w.heap.size w ((w.alloc (.cells (arr (fun _ => 0)) 199)).alloc (.cells (arr (fun _ => 0)) 199)) := ((Below.refl _ w).alloc nl _).alloc (by simp) _
  have ez : (.cells (arr fun _ => 0) 199 : Obj) = .cells #[.int .i64 0, .int .i64 0, .int .i64 0, .int .i64 0, .int .i64 0, .int .i64 0, .int .i64 0, .int .i64 0, .int .i64 0, .int .i64 0, .int .i64 0, .int .i64 0, .int .i64 0, .int .i64 0, .int .i64 0, .int .i64 0, .int .i64 0, .int .i64 0, .int .i64 0, .int .i64 0, .int .i64 0, .int .i64 0, .int .i64 0, .int .i64 0] 199 := rfl
  rw [← ez]
  have hsz : ((w.alloc (.cells (arr (fun _ => 0)) 199)).alloc (.cells (arr (fun _ => 0)) 199)).heap.size = w.heap.size + 2 := by simp
  clear ez
  generalize ((w.alloc (.cells (arr (fun _ => 0)) 199)).alloc (.cells (arr (fun _ => 0)) 199)) = W0 at A0 R0 hB0 hsz ⊢
  go_loopw [12] (fun x wr => ∃ j : Nat, j ≤ 24 ∧ x = .int .i64 j ∧ AHas wr (w.heap.size + 1) (fun q => if q < j then 1000000000000 else 0) ∧ AHas wr w.heap.size (fun _ => 0) ∧ Below w.heap.size w wr) (fun x _ => 24 - (intOf x).toNat)
  case atStart => exact ⟨0, by omega, rfl, A0.congr (fun _ _ => by simp), R0, hB0⟩
  case round =>
    obtain ⟨j, hj, rfl, A1, R1, hB1⟩ := hrel
    clear A0 R0 hB0
    by_cases hlt : j < 24
    · have hlt' : (j : Int) < 24 := by omega
      have d0 := A1.cell hlt
      have z0 := A1.frozen j
      have A2 := (A1.set j 1000000000000 hlt).congr (g := fun q => if q < j + 1 then 1000000000000 else 0) (fun q _ => by
        by_cases e : q = j
        · subst e; simp
        · simp only [e, if_false]
          by_cases e2 : q < j
          · simp [e2]; omega
          · simp [e2]; omega)
      have R2 := R1.of_block (w' := wr.setCell ⟨w.heap.size + 1, j, none⟩ (.int .i64 1000000000000)) (Below.heap_setCell _ _ _ _ (by simp))
      have hB2 := hB1.setCell (p := ⟨w.heap.size + 1, j, none⟩) (by simp) (.int .i64 1000000000000)
      clear A1 R1 hB1
      go_wp2
      go_roundw
      case rel => exact ⟨j + 1, by omega, by go_num, A2, R2, hB2⟩
      case measure => simp [intOf]; omega
    have hj24 : j = 24 := by omega
    subst hj24
    rw [show ((24 : Nat) : Int) = 24 from rfl]
    have hr24 : r < 24 := by omega
    have d0 := A1.cell hr24
    have z0 := A1.frozen r
    have hs0 : (r : Int) < 24 := by omega
    have A2 := (A1.set r 0 hr24).congr (g := cl L H U r 0) (fun q hq => by
      unfold cl
      by_cases e : q = r
      · simp [e]
      · simp [e, hq])
    have R2 := R1.of_block (w' := wr.setCell ⟨w.heap.size + 1, r, none⟩ (.int .i64 0)) (Below.heap_setCell _ _ _ _ (by simp))
    have hB2 := hB1.setCell (p := ⟨w.heap.size + 1, r, none⟩) (by simp) (.int .i64 0)
    clear A1 R1 hB1
    go_wp2_with fail
    clear d0 z0
    go_loopw [23] (fun x wq => ∃ i : Nat, i ≤ m ∧ x = .int .i64 i ∧ AHas wq (w.heap.size + 1) (cl L H U r i) ∧ AHas wq w.heap.size (fun _ => 0) ∧ Below w.heap.size w wq) (fun x _ => m - (intOf x).toNat)
    case atStart => exact ⟨0, Nat.zero_le _, rfl, A2, R2, hB2⟩
    case round =>
      clear A2 R2 hB2
      obtain ⟨i, hi, rfl, A1, R1, hB1⟩ := hrel
      by_cases hlt3 : i < m
      rotate_left
      · have hin : i = m := by omega
        subst hin
        have A3 : Hid (AHas wr (w.heap.size + 1) (cl L H U r i)) := A1
        have R3 : Hid (AHas wr w.heap.size (fun _ => 0)) := R1
        clear A1 R1
        have hB3 : Hid (Below w.heap.size w (wr.setRow w.heap.size (arr (cl L H U r i)))) := setRow_below hB1 nl _
        go_wp2_with (first | (refine wpList_load_row rfl 199 (.tmp 7) rfl (w.heap.size + 1) rfl 199 (arr (cl L H U r i)) (0, 0) _ A3.out Tryz.undArr rfl (Tryz.infoArr _) ?_) | (refine wpList_store_row rfl 199 (.tmp 6) (.tmp 36) rfl w.heap.size (arr (cl L H U r i)) rfl rfl 199 (arr (fun _ => 0)) R3.out (Tryz.infoArr _) (by rw [arr_size, arr_size]) (arr_one _) ?_))
        refine bodyPost_ret (results_cell_row rfl _ _ w.heap.size 199 (arr (cl L H U r i)) (0, 0) _ rfl (R3.out.row _) Tryz.undArr rfl (Tryz.infoArr _)) rfl ?_
        exact ⟨rfl, hB3.out⟩
      obtain ⟨ab, aoff, hao, e0, e1⟩ := (he.below hB1 nl) i hlt3
      subst hao
      obtain ⟨ub, uoff, huo, u00⟩ := hU i hlt3
      subst huo
      have hub := lt_of_cell u00
      have u0 := keep_cell hB1 nl u00
      clear u00
      have ha := HI.out.2 i hlt3
      obtain ⟨tF, hF⟩ : ∃ tF : Nat, L i = (tF : Int) := ⟨(L i).toNat, by omega⟩
      obtain ⟨tT, hTT⟩ : ∃ tT : Nat, H i = (tT : Int) := ⟨(H i).toNat, by omega⟩
      have hk1 : (0 : Int) ≤ (i : Int) := by omega
      have hk2 : (i : Int) < (m : Int) := by omega
      have hul := lt_of_cell u0
      have A3 : Hid (AHas wr (w.heap.size + 1) (cl L H U r i)) := A1
      have R3 : Hid (AHas wr w.heap.size (fun _ => 0)) := R1
      have hsl := A1.lt
      clear A1 R1
      have hwl := R3.out.lt
      go_wp2_with fail
      have hal := ((Below.refl wr.heap.size wr).alloc nl (.cells #[.int .i64 (tF : Int), .int .i64 (tT : Int)] 94)).drew
      have A4 : Hid (AHas (wr.alloc (.cells #[.int .i64 (tF : Int), .int .i64 (tT : Int)] 94)).drew (w.heap.size + 1) (cl L H U r i)) := A3.out.below hal hsl
      have R4 : Hid (AHas (wr.alloc (.cells #[.int .i64 (tF : Int), .int .i64 (tT : Int)] 94)).drew w.heap.size (fun _ => 0)) := R3.out.below hal hwl
      have hB4 : Hid (Below w.heap.size w (wr.alloc (.cells #[.int .i64 (tF : Int), .int .i64 (tT : Int)] 94)).drew) := hB1.trans (hal.mono (by omega))
      have y0 : (wr.alloc (.cells #[.int .i64 (tF : Int), .int .i64 (tT : Int)] 94)).drew.cell? ⟨wr.heap.size, 0, none⟩ = some (.int .i64 (tF : Int)) := by simp [go_sem]
      have y1 : (wr.alloc (.cells #[.int .i64 (tF : Int), .int .i64 (tT : Int)] 94)).drew.cell? ⟨wr.heap.size, 1, none⟩ = some (.int .i64 (tT : Int)) := by simp [go_sem]
      have y2 := keep_cell hal nl u0
      have c0 : ∀ j, 0 ≤ cl L H U r i j ∧ cl L H U r i j ≤ 1000000000000 := cl_in r HI.out.1 i (by omega)
      have c1 := HI.out.1 i hlt3
      have hne : ub ≠ w.heap.size + 1 := by omega
      have hne2 : wr.heap.size ≠ w.heap.size + 1 := by omega
      have hlF : tF < 24 := by omega
      have hlT : tT < 24 := by omega
      clear hal A3 R3 hB1 e0 e1 u0
      go_region_held3 (fun w' => w'.cell? ⟨wr.heap.size, 0, none⟩ = some (.int .i64 (tF : Int)) ∧ w'.cell? ⟨wr.heap.size, 1, none⟩ = some (.int .i64 (tT : Int)) ∧ w'.cell? ⟨ub, uoff + i, none⟩ = some (.int .i64 (U i)))
        (first | (go_split_ands; refine ⟨?_, ?_, ?_⟩ <;> exact hT.cell (by simp; omega) (by assumption)) | go_keep)
        (first | (go_at_call 153; refine (climbFn_any tF tT (U i) (w.heap.size + 1) _ hlF hlT c0 c1 _ A4.out).mono ?_; rintro e w2 ⟨⟨v, rfl⟩, hA, hT⟩))
      have A5 := hA.congr (g := cl L H U r (i + 1)) (fun j hj => by
        have h1 : (H i).toNat = tT := by omega
        have h2 : (L i).toNat = tF := by omega
        show _ = (if j = (H i).toNat then _ else _)
        rw [h1, h2])
      have R5 := R4.out.of_block (hT.block _ R4.out.lt (by simp))
      have B5 := hB4.out.trans (hT.below (B := w.heap.size) (by have := R4.out.lt; omega) (by simp))
      clear hA A4 R4 hB4 hT
      go_wp2
      go_roundw
      case rel => exact ⟨i + 1, by omega, by go_num, A5, R5, B5⟩
      case measure => simp [intOf]; omega
structure PutA (w2 : World) (f : Nat → Int) (X : World) : Prop where
  has : AHas X w2.heap.size f
  bel : Below w2.heap.size w2 X
  siz : X.heap.size = w2.heap.size + 1
theorem putA_new (w2 : World) (f : Nat → Int) : PutA w2 f ((w2.alloc (.cells (arr fun _ => 0) 199)).setRow w2.heap.size (arr f)) :=
  ⟨(ahas_new w2).row f, setRow_below ((Below.refl _ _).alloc nl _) nl _, by simp⟩
set_option maxRecDepth 100000 in
set_option maxHeartbeats 4000000 in
theorem meet_any (po : Option Addr) (k pcap : Nat) (eo : Option Addr) (m ecap : Nat) (L H : Nat → Int) (uo : Option Addr) (u ucap : Nat) (U : Nat → Int) (vo : Option Addr) (v vcap : Nat) (V : Nat → Int) (a b : Int) (hk : k ≤ 1048576) (hm : m ≤ 1048576) (hu : u ≤ 1048576) (hv : v ≤ 1048576) (w : World) (he : ERow w eo m L H) (hU : IRow w uo u U) (hV : IRow w vo v V) :
    Calls Tryz.prog 141 #[.agg #[.slice po k pcap, .slice eo m ecap], .agg #[.slice uo u ucap, .slice vo v vcap], .int .i64 a, .int .i64 b] w fun e w' => e = .returned (.tuple #[.int .i64 (mtg k m L H u U v V a b).1, .int .i64 (mtg k m L H u U v V a b).2]) ∧ Below w.heap.size w w' := by
  have hB0 := ((Below.refl w.heap.size w).alloc nl (.cells #[.slice po k pcap, .slice eo m ecap] 30)).alloc (by simp) (.cells #[.slice uo u ucap, .slice vo v vcap] 179)
  have q0 : ((w.alloc (.cells #[.slice po k pcap, .slice eo m ecap] 30)).alloc (.cells #[.slice uo u ucap, .slice vo v vcap] 179)).cell? ⟨w.heap.size, 0, none⟩ = some (.slice po k pcap) := by simp [go_sem]
  have q1 : ((w.alloc (.cells #[.slice po k pcap, .slice eo m ecap] 30)).alloc (.cells #[.slice uo u ucap, .slice vo v vcap] 179)).cell? ⟨w.heap.size, 1, none⟩ = some (.slice eo m ecap) := by simp [go_sem]
  have q2 : ((w.alloc (.cells #[.slice po k pcap, .slice eo m ecap] 30)).alloc (.cells #[.slice uo u ucap, .slice vo v vcap] 179)).cell? ⟨w.heap.size + 1, 0, none⟩ = some (.slice uo u ucap) := by simp [go_sem]
  have q3 : ((w.alloc (.cells #[.slice po k pcap, .slice eo m ecap] 30)).alloc (.cells #[.slice uo u ucap, .slice vo v vcap] 179)).cell? ⟨w.heap.size + 1, 1, none⟩ = some (.slice vo v vcap) := by simp [go_sem]
  by_cases h1 : TOld k m L H u U v V ∧ RIn k a
  rotate_left
  · rw [mtg_no (fun h => h1 ⟨h.1, h.2.1⟩)]
    have HN : Hid (¬ (TOld k m L H u U v V ∧ RIn k a)) := h1
    clear h1
    go_enter Tryz.func141, Tryz.ntmps141
    go_wp2_with fail
    refine (climbOk_any po k pcap eo m ecap L H uo u ucap U vo v vcap V a hk hm hu hv _ (he.below hB0 nl) (hU.below hB0 nl) (hV.below hB0 nl)).mono ?_
    rintro e w1 ⟨⟨b0, rfl, hb0⟩, hb1⟩
    obtain rfl : b0 = false := by
      cases b0
      · rfl
      · exact absurd (hb0.1 rfl) HN.out
    clear hb0
    go_wp2
    go_ret2
    exact ⟨rfl, below_next hB0 nl hb1⟩
  by_cases h2 : RIn k b
  rotate_left
  · rw [mtg_no (fun h => h2 h.2.2)]
    have HN : Hid (¬ (TOld k m L H u U v V ∧ RIn k b)) := fun x => h2 x.2
    have HY : Hid (TOld k m L H u U v V ∧ RIn k a) := h1
    clear h1 h2
    go_enter Tryz.func141, Tryz.ntmps141
    go_wp2_with fail
    refine (climbOk_any po k pcap eo m ecap L H uo u ucap U vo v vcap V a hk hm hu hv _ (he.below hB0 nl) (hU.below hB0 nl) (hV.below hB0 nl)).mono ?_
    rintro e w1 ⟨⟨b0, rfl, hb0⟩, hb1⟩
    obtain rfl : b0 = true := hb0.2 HY.out
    clear hb0
    replace q0 := keep_cell hb1 nl q0
    replace q1 := keep_cell hb1 nl q1
    replace q2 := keep_cell hb1 nl q2
    replace q3 := keep_cell hb1 nl q3
    have hB1 := below_next hB0 nl hb1
    clear hb1 hB0
    go_wp2_with fail
    refine (climbOk_any po k pcap eo m ecap L H uo u ucap U vo v vcap V b hk hm hu hv _ (he.below hB1 nl) (hU.below hB1 nl) (hV.below hB1 nl)).mono ?_
    rintro e w2 ⟨⟨b0, rfl, hb0⟩, hb2⟩
    obtain rfl : b0 = false := by
      cases b0
      · rfl
      · exact absurd (hb0.1 rfl) HN.out
    clear hb0
    go_wp2
    go_ret2
    exact ⟨rfl, below_next hB1 nl hb2⟩
  have hT := h1.1
  obtain ⟨hk1, hk2⟩ := told_k hT
  obtain rfl : u = m := hT.2.1
  obtain rfl : v = u := hT.2.2.1
  have HT : Hid (TOld k v L H v U v V ∧ RIn k a ∧ RIn k b) := ⟨hT, h1.2, h2⟩
  rw [mtg_yes hT h1.2 h2]
  obtain ⟨ha0, ha1⟩ := h1.2
  obtain ⟨hb0, hb1⟩ := h2
  obtain ⟨an, rfl⟩ : ∃ an : Nat, a = (an : Int) := ⟨a.toNat, by omega⟩
  obtain ⟨bn, rfl⟩ : ∃ bn : Nat, b = (bn : Int) := ⟨b.toNat, by omega⟩
  rw [Int.toNat_natCast, Int.toNat_natCast]
  have HF : Hid (mt (cl L H U an v) (cl L H V bn v) 24 = mt (cl L H U an v) (cl L H V bn v) k) := by
    have := mt_far (A := cl L H U an v) (B := cl L H V bn v) (k := k) (cl_far (by omega) (fun i hi => by have := told_e hT i hi; omega) v nl) (fun r => (cl_in bn hT.2.2.2.2 v nl r).1) (24 - k)
    rwa [show k + (24 - k) = 24 by omega] at this
  rw [← HF.out]
  have HA : Hid (∀ j, 0 ≤ cl L H U an v j ∧ cl L H U an v j ≤ 1000000000000) := cl_in an hT.2.2.2.1 v nl
  have HB : Hid (∀ j, 0 ≤ cl L H V bn v j ∧ cl L H V bn v j ≤ 1000000000000) := cl_in bn hT.2.2.2.2 v nl
  clear h1 hT HF
  go_enter Tryz.func141, Tryz.ntmps141
  go_wp2_with fail
  refine (climbOk_any po k pcap eo v ecap L H uo v ucap U vo v vcap V an hk hm hu hv _ (he.below hB0 nl) (hU.below hB0 nl) (hV.below hB0 nl)).mono ?_
  rintro e w1 ⟨⟨b0, rfl, hb0⟩, hb1⟩
  obtain rfl : b0 = true := hb0.2 ⟨HT.out.1, HT.out.2.1⟩
  clear hb0
  replace q0 := keep_cell hb1 nl q0
  replace q1 := keep_cell hb1 nl q1
  replace q2 := keep_cell hb1 nl q2
  replace q3 := keep_cell hb1 nl q3
  have hB1 := below_next hB0 nl hb1
  clear hb1 hB0
  go_wp2_with fail
  refine (climbOk_any po k pcap eo v ecap L H uo v ucap U vo v vcap V bn hk hm hu hv _ (he.below hB1 nl) (hU.below hB1 nl) (hV.below hB1 nl)).mono ?_
  rintro e w2 ⟨⟨b0, rfl, hb0⟩, hb2⟩
  obtain rfl : b0 = true := hb0.2 ⟨HT.out.1, HT.out.2.2⟩
  clear hb0
  replace q0 := keep_cell hb2 nl q0
  replace q1 := keep_cell hb2 nl q1
  replace q2 := keep_cell hb2 nl q2
  replace q3 := keep_cell hb2 nl q3
  have hB2 := below_next hB1 nl hb2
  clear hb2 hB1
  go_wp2_with fail
  refine (sumsFrom_any eo k v ecap L H uo ucap U an (by omega) hk2 (told_e HT.out.1) HT.out.1.2.2.2.1 hm _ (he.below hB2 nl) (hU.below hB2 nl)).mono ?_
  rintro e w3 ⟨rfl, hb3⟩
  replace q0 := keep_cell hb3 nl q0
  replace q1 := keep_cell hb3 nl q1
  replace q2 := keep_cell hb3 nl q2
  replace q3 := keep_cell hb3 nl q3
  have hB3 := below_next hB2 nl hb3
  clear hb3 hB2
  have HQ : Hid (AHas (w3.alloc (.cells (arr fun _ => 0) 199)) w3.heap.size (fun _ => 0)) := ahas_new w3
  have PK : Hid (PutA w3 (cl L H U an v) ((w3.alloc (.cells (arr fun _ => 0) 199)).setRow w3.heap.size (arr (cl L H U an v)))) := putA_new _ _
  go_wp2_with (first | (refine wpList_store_row rfl 199 _ _ rfl w3.heap.size (arr (cl L H U an v)) rfl rfl 199 (arr (fun _ => 0)) HQ.out (Tryz.infoArr _) (by rw [arr_size, arr_size]) (arr_one _) ?_; generalize hX : World.setRow _ _ _ = X; have PK' : PutA w3 (cl L H U an v) X := (by rw [← hX]; exact PK.out); clear hX PK HQ; obtain ⟨a1, a2, a3⟩ := PK'; replace q0 := keep_cell a2 nl q0; replace q1 := keep_cell a2 nl q1; replace q2 := keep_cell a2 nl q2; replace q3 := keep_cell a2 nl q3; replace hB3 := below_next hB3 nl a2; clear a2))
  refine (sumsFrom_any eo k v ecap L H vo vcap V bn (by omega) hk2 (told_e HT.out.1) HT.out.1.2.2.2.2 hm _ (he.below hB3 nl) (hV.below hB3 nl)).mono ?_
  rintro e w4 ⟨rfl, hb4⟩
  have hB4 := below_next hB3 nl hb4
  have A4 := a1.below hb4 a1.lt
  have hs4 := hb4.size
  clear hb4 hB3 q0 q1 q2 q3 a1
  have HQ : Hid (AHas (w4.alloc (.cells (arr fun _ => 0) 199)) w4.heap.size (fun _ => 0)) := ahas_new w4
  have PK : Hid (PutA w4 (cl L H V bn v) ((w4.alloc (.cells (arr fun _ => 0) 199)).setRow w4.heap.size (arr (cl L H V bn v)))) := putA_new _ _
  go_wp2_with (first | (refine wpList_store_row rfl 199 _ _ rfl w4.heap.size (arr (cl L H V bn v)) rfl rfl 199 (arr (fun _ => 0)) HQ.out (Tryz.infoArr _) (by rw [arr_size, arr_size]) (arr_one _) ?_; generalize hX : World.setRow _ _ _ = Y; have PK' : PutA w4 (cl L H V bn v) Y := (by rw [← hX]; exact PK.out); clear hX PK HQ; obtain ⟨c1, c2, c3⟩ := PK'; replace A4 := A4.below c2 A4.lt; replace hB4 := below_next hB4 nl c2; clear c2))
  have HA4 : Hid (AHas Y w3.heap.size (cl L H U an v)) := A4
  have HC4 : Hid (AHas Y w4.heap.size (cl L H V bn v)) := c1
  clear A4 c1
  go_loopw [10, 11, 42] (fun x y z wr => ∃ i : Nat, i ≤ 24 ∧ z = .int .i64 i ∧ x = .int .i64 (mt (cl L H U an v) (cl L H V bn v) i).1 ∧ y = .int .i64 (mt (cl L H U an v) (cl L H V bn v) i).2 ∧ Below Y.heap.size Y wr) (fun _ _ z _ => 24 - (intOf z).toNat)
  case atStart => exact ⟨0, Nat.zero_le _, rfl, rfl, rfl, Below.refl _ _⟩
  case round =>
    obtain ⟨i, hi, rfl, rfl, rfl, hbel⟩ := hrel
    by_cases hlt : i < 24
    rotate_left
    · have e : i = 24 := by omega
      subst e
      go_wp2
      go_ret2
      exact ⟨rfl, below_next hB4 nl hbel⟩
    have hlt' : (i : Int) < 24 := by omega
    have c0 := (HA4.out.below hbel HA4.out.lt).cell hlt
    have d0 := (HC4.out.below hbel HC4.out.lt).cell hlt
    have a0 := HA.out i
    have b0 := HB.out i
    obtain ⟨⟨p1, p2⟩, hp⟩ : ∃ p, mt (cl L H U an v) (cl L H V bn v) i = p := ⟨_, rfl⟩
    by_cases hs : min 1000000000000 (cl L H U an v i + cl L H V bn v i) < p2
    · have HY : Hid (mt (cl L H U an v) (cl L H V bn v) (i + 1) = ((i : Int), min 1000000000000 (cl L H U an v i + cl L H V bn v i))) := mt_yes hp hs
      rw [hp]
      clear hp
      go_wp2
      go_quiet (first | (go_at_call 67; refine Calls.quiet_of_same (plus_any _ _ a0.1 a0.2 b0.1 b0.2 _)))
      go_wp2
      go_roundw
      case rel => exact ⟨i + 1, by omega, by go_num, by rw [HY.out], by rw [HY.out], below_drewN hbel _⟩
      case measure => simp [intOf]; omega
    · have HY : Hid (mt (cl L H U an v) (cl L H V bn v) (i + 1) = (p1, p2)) := mt_no hp hs
      rw [hp]
      clear hp
      go_wp2
      go_quiet (first | (go_at_call 67; refine Calls.quiet_of_same (plus_any _ _ a0.1 a0.2 b0.1 b0.2 _)))
      go_wp2
      go_roundw
      case rel => exact ⟨i + 1, by omega, by go_num, by rw [HY.out], by rw [HY.out], below_drewN hbel _⟩
      case measure => simp [intOf]; omega

open Classical in
noncomputable def dst (k : Nat) (P : Nat → Int) (m : Nat) (L H : Nat → Int) (u : Nat) (U : Nat → Int) (v : Nat) (V : Nat → Int) (a b : Int) : Int :=
  if okR k P = true ∧ RIn k a ∧ RIn k b then (mtg k m L H u U v V (rk P (-1) k a.toNat) (rk P (-1) k b.toNat)).2 else 1000000000000
theorem dst_no {k : Nat} {P : Nat → Int} {m : Nat} {L H : Nat → Int} {u : Nat} {U : Nat → Int} {v : Nat} {V : Nat → Int} {a b : Int} (h : ¬ (TOld k m L H u U v V ∧ okR k P = true ∧ RIn k a ∧ RIn k b)) : dst k P m L H u U v V a b = 1000000000000 := by
  unfold dst
  split
  · next hx => rw [mtg_no (fun y => h ⟨y.1, hx⟩)]
  · rfl
theorem dst_yes {k : Nat} {P : Nat → Int} {m : Nat} {L H : Nat → Int} {u : Nat} {U : Nat → Int} {v : Nat} {V : Nat → Int} {a b : Int} (h : okR k P = true) (ha : RIn k a) (hb : RIn k b) : dst k P m L H u U v V a b = (mtg k m L H u U v V (rk P (-1) k a.toNat) (rk P (-1) k b.toNat)).2 := by
  unfold dst; rw [if_pos ⟨h, ha, hb⟩]
end
end Go.Proofs.YthmpliljffmmcaaGreatDoor
