/-
  Helpers, merged: Tri, LWeigh, Add, Skips, UnS, OkA, OkI, OkImpl, Keys, Map, Nums, EdMap, Box22, EqI, UnG.
-/
import Derived.Test.YtjabllghohapgahPack1
import Derived.Test.YtjabllghohapgahRows
import Derived.Deep.RegionHeld
import Derived.Deep.QuietTactic
import Derived.BigQuiet
import Derived.Deep.DrawnRows
import Derived.Maps.Own
import Derived.Maps.OwnOps
import Derived.Maps.OwnSet
import Derived.Maps.Views
import Derived.DeepKeys4
/-
  Triangles of a list of edges that rises, in their order: the plain part; and where an edge stands in the list (the document's).
-/
set_option linter.unusedVariables false
set_option linter.unusedSimpArgs false
namespace Go.Proofs.Ytjabllghohapgah
open Go.RowKit
attribute [local go_sem ↓] Go.wp_at_zero Go.wp_at_succ

theorem ed_rise {p : Int} {L H : Nat → Int} : ∀ n, edB p L H n = true → ∀ j, j < n → ∀ i, i < j → L i < L j ∨ (L i = L j ∧ H i < H j)
  | 0, _, j, hj, _, _ => by omega
  | n + 1, h, j, hj, i, hi => by
    have hn : edB p L H n = true := by simp [edB] at h; exact h.1
    by_cases e : j = n
    · subst e
      have hup : L (j - 1) < L j ∨ (L (j - 1) = L j ∧ H (j - 1) < H j) := by
        simp [edB] at h
        rcases h.2.2 with h0 | h0
        · omega
        · exact (upB_iff).1 h0
      by_cases e2 : i = j - 1
      · subst e2; exact hup
      · have := ed_rise j hn (j - 1) (by omega) i (by omega)
        omega
    · exact ed_rise n hn j (by omega) i hi
theorem ed_once {p : Int} {n : Nat} {L H : Nat → Int} (h : edB p L H n = true) {i j : Nat} (hi : i < n) (hj : j < n) (h1 : L i = L j) (h2 : H i = H j) : i = j := by
  rcases Nat.lt_trichotomy i j with x | x | x
  · have := ed_rise n h j hj i x; omega
  · exact x
  · have := ed_rise n h i hi j x; omega

/-- Where an edge stands. -/
def fnd (L H : Nat → Int) (a b : Int) : Nat → Nat
  | 0 => 0
  | k + 1 => if L k = a ∧ H k = b then k else fnd L H a b k
theorem fnd_at {L H : Nat → Int} {a b : Int} : ∀ n, Hs n L H a b → fnd L H a b n < n ∧ L (fnd L H a b n) = a ∧ H (fnd L H a b n) = b
  | 0, ⟨i, hi, _⟩ => by omega
  | n + 1, ⟨i, hi, h1, h2⟩ => by
    unfold fnd
    by_cases e : L n = a ∧ H n = b
    · rw [if_pos e]; exact ⟨by omega, e⟩
    · rw [if_neg e]
      have := fnd_at n ⟨i, by
        by_cases x : i = n
        · subst x; exact absurd ⟨h1, h2⟩ e
        · omega, h1, h2⟩
      exact ⟨by omega, this.2⟩
theorem fnd_is {p : Int} {n : Nat} {L H : Nat → Int} (h : edB p L H n = true) {a b : Int} {q : Nat} (hq : q < n) (h1 : L q = a) (h2 : H q = b) : fnd L H a b n = q := by
  have := fnd_at n ⟨q, hq, h1, h2⟩
  exact ed_once h this.1 hq (by rw [this.2.1, h1]) (by rw [this.2.2, h2])

abbrev Tr := Nat × Nat × Nat
/-- The triangles with their lower edge at i, from k on. -/
def rowT (n : Nat) (L H : Nat → Int) (i : Nat) : Nat → Nat → List Tr
  | 0, _ => []
  | f + 1, k => if k < n ∧ L k = L i then (i, k, fnd L H (H i) (H k) n) :: rowT n L H i f (k + 1) else []
/-- Those with their lower edge among the first. -/
def allT (n : Nat) (L H : Nat → Int) : Nat → List Tr
  | 0 => []
  | i + 1 => allT n L H i ++ rowT n L H i (n - (i + 1)) (i + 1)
theorem rowT_go {n : Nat} {L H : Nat → Int} {i k : Nat} (hk : k < n) (h : L k = L i) : rowT n L H i (n - k) k = (i, k, fnd L H (H i) (H k) n) :: rowT n L H i (n - (k + 1)) (k + 1) := by
  have : n - k = (n - (k + 1)) + 1 := by omega
  rw [this, rowT, if_pos ⟨hk, h⟩]
theorem rowT_stop {n : Nat} {L H : Nat → Int} {i k : Nat} (h : ¬ (k < n ∧ L k = L i)) : rowT n L H i (n - k) k = [] := by
  cases e : n - k with
  | zero => rfl
  | succ f => rw [rowT, if_neg h]
/-- In each triangle of edges that are chordal the edges are there, and the lower one has the least place. -/
def TOk (n : Nat) (L H : Nat → Int) (t : Tr) : Prop := t.1 < n ∧ t.2.1 < n ∧ t.2.2 < n ∧ t.1 < t.2.1 ∧ L t.2.1 = L t.1 ∧ L t.2.2 = H t.1 ∧ H t.2.2 = H t.2.1
theorem tok_of {p : Int} {n : Nat} {L H : Nat → Int} (he : edB p L H n = true) (hc : ChdTo n L H n) {i k : Nat} (hi : i < k) (hk : k < n) (h : L k = L i) : TOk n L H (i, k, fnd L H (H i) (H k) n) := by
  have hs := hc i (by omega) k hi hk (fun j h1 h2 => by
    by_cases e : j = k
    · subst e; exact h
    · have a := ed_rise n he j (by omega) i h1
      have b := ed_rise n he k hk j (by omega)
      omega)
  obtain ⟨h1, h2, h3⟩ := fnd_at n hs
  exact ⟨by omega, hk, h1, hi, h, h2, h3⟩
theorem rowT_ok {p : Int} {n : Nat} {L H : Nat → Int} (he : edB p L H n = true) (hc : ChdTo n L H n) {i : Nat} : ∀ f k, i < k → ∀ t ∈ rowT n L H i f k, TOk n L H t
  | 0, k, _, t, ht => by simp [rowT] at ht
  | f + 1, k, hk, t, ht => by
    unfold rowT at ht
    split at ht
    · next h =>
      rcases List.mem_cons.1 ht with rfl | ht
      · exact tok_of he hc hk h.1 h.2
      · exact rowT_ok he hc f (k + 1) (by omega) t ht
    · simp at ht
theorem allT_ok {p : Int} {n : Nat} {L H : Nat → Int} (he : edB p L H n = true) (hc : ChdTo n L H n) : ∀ i, ∀ t ∈ allT n L H i, TOk n L H t
  | 0, t, ht => by simp [allT] at ht
  | i + 1, t, ht => by
    unfold allT at ht
    rcases List.mem_append.1 ht with ht | ht
    · exact allT_ok he hc i t ht
    · exact rowT_ok he hc _ (i + 1) (by omega) t ht
theorem allT_mono {n : Nat} {L H : Nat → Int} {i : Nat} {t : Tr} : ∀ {j}, i ≤ j → t ∈ allT n L H i → t ∈ allT n L H j
  | 0, hi, h => by
    have : i = 0 := by omega
    subst this; exact h
  | j + 1, hi, h => by
    by_cases e : i = j + 1
    · subst e; exact h
    · exact List.mem_append.2 (Or.inl (allT_mono (j := j) (by omega) h))
theorem rowT_len {n : Nat} {L H : Nat → Int} {i : Nat} : ∀ f k, (rowT n L H i f k).length ≤ f
  | 0, k => by simp [rowT]
  | f + 1, k => by
    unfold rowT
    split
    · have := rowT_len (n := n) (L := L) (H := H) (i := i) f (k + 1); simp; omega
    · simp
theorem allT_len {n : Nat} {L H : Nat → Int} : ∀ i, (allT n L H i).length ≤ i * n
  | 0 => by simp [allT]
  | i + 1 => by
    have h1 := allT_len (n := n) (L := L) (H := H) i
    have h2 := rowT_len (n := n) (L := L) (H := H) (i := i) (n - (i + 1)) (i + 1)
    have h3 : (i + 1) * n = i * n + n := by rw [Nat.add_mul, Nat.one_mul]
    simp only [allT, List.length_append]
    omega

theorem row_mem {p : Int} {n : Nat} {L H : Nat → Int} (he : edB p L H n = true) {i k : Nat} (hk : k < n) (hL : L k = L i) : ∀ d k0, k - k0 = d → i < k0 → k0 ≤ k → (i, k, fnd L H (H i) (H k) n) ∈ rowT n L H i (n - k0) k0
  | 0, k0, hd, h1, h2 => by
    have : k0 = k := by omega
    subst this
    rw [rowT_go hk hL]
    exact List.mem_cons_self
  | d + 1, k0, hd, h1, h2 => by
    have hl : L k0 = L i := by
      have a := ed_rise n he k0 (by omega) i h1
      have b := ed_rise n he k hk k0 (by omega)
      omega
    rw [rowT_go (by omega) hl]
    exact List.mem_cons_of_mem _ (row_mem he hk hL d (k0 + 1) (by omega) (by omega) (by omega))
theorem tok_mem {p : Int} {n : Nat} {L H : Nat → Int} (he : edB p L H n = true) {t : Tr} (h : TOk n L H t) : t ∈ allT n L H n := by
  obtain ⟨i, k, e⟩ := t
  obtain ⟨h1, h2, h3, h4, h5, h6, h7⟩ := h
  simp only at h1 h2 h3 h4 h5 h6 h7
  have hf : fnd L H (H i) (H k) n = e := fnd_is he h3 h6 h7
  have := row_mem he h2 h5 (k - (i + 1)) (i + 1) rfl (by omega) (by omega)
  rw [hf] at this
  exact allT_mono (i := i + 1) (by omega) (List.mem_append.2 (.inr this))

def InF (n : Nat) (U : Nat → Int) : Prop := ∀ j, j < n → 0 ≤ U j ∧ U j ≤ 1000000000000
/-- What a triangle tells: up and down over its least place. -/
def upT (U D : Nat → Int) (t : Tr) : Int := min 1000000000000 (D t.1 + U t.2.1)
def dnT (U D : Nat → Int) (t : Tr) : Int := min 1000000000000 (D t.2.1 + U t.1)
def okT (U D : Nat → Int) (t : Tr) : Prop := U t.2.2 ≤ upT U D t ∧ D t.2.2 ≤ dnT U D t

set_option maxHeartbeats 800000 in
theorem l4Find_is (ao : Option Addr) (n cap : Nat) (L H : Nat → Int) (a b : Int) (q : Nat) (hq : q < n) (h1 : L q = a) (h2 : H q = b) (hu : ∀ j, j < n → L j = a → H j = b → j = q) (hn : n ≤ 1048576) (w : World) (hr : ERow w ao n L H) :
    Calls Try.prog 47 #[.slice ao n cap, .int .i64 a, .int .i64 b] w fun e w' => e = .returned (.int .i64 (q : Int)) ∧ Below w.heap.size w w' := by
  have HU : Hid (∀ j, j < n → L j = a → H j = b → j = q) := hu
  have HQ : Hid (q < n ∧ L q = a ∧ H q = b) := ⟨hq, h1, h2⟩
  clear hu hq h1 h2
  go_enter Try.func47, Try.ntmps47
  go_wp2
  go_loopw [7] (fun i wr => ∃ k : Nat, k ≤ n ∧ i = .int .i64 k ∧ (∀ j, j < k → ¬ (L j = a ∧ H j = b)) ∧ Below w.heap.size w wr) (fun i _ => n - (intOf i).toNat)
  case atStart => exact ⟨0, Nat.zero_le _, rfl, fun j hj => by omega, Below.refl _ _⟩
  case round =>
    obtain ⟨k, hk, rfl, hno, hbel⟩ := hrel
    have HNO : Hid (∀ j, j < k → ¬ (L j = a ∧ H j = b)) := hno
    clear hno
    by_cases hlt : k < n
    rotate_left
    · have hkn : k = n := by omega
      subst hkn
      go_wp2
      go_ret
      exact absurd ⟨HQ.out.2.1, HQ.out.2.2⟩ (HNO.out q HQ.out.1)
    obtain ⟨bb, o, hao, c0, c1⟩ := (hr.below hbel (Nat.le_refl _)) k hlt
    subst hao
    have hk1 : (0 : Int) ≤ (k : Int) := by omega
    have hk2 : (k : Int) < (n : Int) := by omega
    by_cases h1 : L k = a
    rotate_left
    · have hd : decide (L k = a) = false := by simpa using h1
      go_wp2
      go_roundw
      case rel => exact ⟨k + 1, by omega, by go_num, fun j hj => by
        by_cases e : j = k
        · subst e; exact fun h => h1 h.1
        · exact HNO.out j (by omega), hbel⟩
      case measure => simp [intOf]; omega
    by_cases h2 : H k = b
    · have hs : Hid (k = q) := HU.out k hlt h1 h2
      go_wp2
      go_ret
      exact ⟨by rw [hs.out]; rfl, hbel⟩
    · go_wp2
      go_roundw
      case rel => exact ⟨k + 1, by omega, by go_num, fun j hj => by
        by_cases e : j = k
        · subst e; exact fun h => h2 h.2
        · exact HNO.out j (by omega), hbel⟩
      case measure => simp [intOf]; omega

end Go.Proofs.Ytjabllghohapgah

/-
  The weight of an arc, the document's.
-/
set_option linter.unusedVariables false
set_option linter.unusedSimpArgs false
namespace Go.Proofs.Ytjabllghohapgah
open Go.RowKit Go.Maps

def lastW (F T G : Nat → Int) (a b : Int) : Nat → Int
  | 0 => 1000000000000
  | k + 1 => if F k = a ∧ T k = b then G k else lastW F T G a b k
theorem lastW_at {F T G : Nat → Int} {a b : Int} {k : Nat} : ∀ n, (∀ j, j < n → F j = a → T j = b → j = k) → k < n → F k = a → T k = b → lastW F T G a b n = G k
  | 0, _, hk, _, _ => by omega
  | n + 1, hu, hk, hF, hT => by
    unfold lastW
    by_cases h : F n = a ∧ T n = b
    · rw [if_pos h, hu n (by omega) h.1 h.2]
    · rw [if_neg h]
      have : k ≠ n := fun e => h (e ▸ ⟨hF, hT⟩)
      exact lastW_at n (fun j hj => hu j (by omega)) (by omega) hF hT
theorem lastW_none {F T G : Nat → Int} {a b : Int} : ∀ n, (∀ j, j < n → ¬ (F j = a ∧ T j = b)) → lastW F T G a b n = 1000000000000
  | 0, _ => rfl
  | n + 1, h => by
    unfold lastW
    rw [if_neg (h n (by omega))]
    exact lastW_none n (fun j hj => h j (by omega))
set_option maxHeartbeats 1000000 in
theorem l1Weight_any (p : Int) (ao : Option Addr) (n cap : Nat) (F T G : Nat → Int) (a c : Int) (hn : n ≤ 1048576) (hg : arcsB p F T G n = true) (w : World) (hr : Row w ao n F T G) :
    Calls Try.prog 98 #[.agg #[.int .i64 p, .slice ao n cap], .int .i64 a, .int .i64 c] w fun e w' => e = .returned (.int .i64 (lastW F T G a c n)) ∧ Below w.heap.size w w' := by
  have HG : Hid (arcsB p F T G n = true) := hg
  clear hg
  go_enter Try.func98, Try.ntmps98
  go_wp2
  go_loop [7] (fun i => ∃ k : Nat, k ≤ n ∧ i = .int .i64 k ∧ Hid (∀ j, j < k → ¬ (F j = a ∧ T j = c))) (fun i => n - (intOf i).toNat)
  case atStart => exact ⟨0, Nat.zero_le _, rfl, fun j hj => by omega⟩
  case round =>
    obtain ⟨k, hk, rfl, hno⟩ := hrel
    by_cases hlt : k < n
    rotate_left
    · have hkn : k = n := by omega
      subst hkn
      go_wp2
      go_ret
      exact ⟨ret_i64 (lastW_none k hno.out).symm, (Below.refl _ _).alloc (Nat.le_refl _) _⟩
    obtain ⟨b, o, hao, c0, c1, c2⟩ := (hr.alloc (.cells #[.int .i64 p, .slice ao n cap] 47)) k hlt
    subst hao
    rcases Bool.eq_false_or_eq_true (F k == a) with hF | hF
    · rcases Bool.eq_false_or_eq_true (T k == c) with hT | hT
      · go_wp2
        go_ret
        have eF : F k = a := by simpa using hF
        have eT : T k = c := by simpa using hT
        exact ⟨ret_i64 (lastW_at n (fun j hj e1 e2 => unique HG.out hj hlt (e1.trans eF.symm) (e2.trans eT.symm)) hlt eF eT).symm, (Below.refl _ _).alloc (Nat.le_refl _) _⟩
      · go_wp2
        go_round
        case rel => exact ⟨k + 1, by omega, by go_num, fun j hj => by
          by_cases e : j = k
          · subst e; simp at hT; exact fun h => hT h.2
          · exact hno.out j (by omega)⟩
        case measure => simp [intOf]; omega
    · go_wp2
      go_round
      case rel => exact ⟨k + 1, by omega, by go_num, fun j hj => by
        by_cases e : j = k
        · subst e; simp at hF; exact fun h => hF h.1
        · exact hno.out j (by omega)⟩
      case measure => simp [intOf]; omega

end Go.Proofs.Ytjabllghohapgah

/-
  Sums that end at Far: the document's and the program's.
-/
set_option linter.unusedVariables false
set_option linter.unusedSimpArgs false
namespace Go.Proofs.Ytjabllghohapgah
open Go.RowKit
attribute [local go_sem ↓] Go.wp_at_zero Go.wp_at_succ

theorem l1Min_any (a b : Int) (w : World) : Calls Try.prog 87 #[.int .i64 a, .int .i64 b] w fun e w' => e = .returned (.int .i64 (min a b)) ∧ w' = w := by
  by_cases h : a < b
  · go_enter Try.func87, Try.ntmps87
    go_wp2
    go_ret
    exact ⟨ret_i64 (by omega), rfl⟩
  · go_enter Try.func87, Try.ntmps87
    go_wp2
    go_ret
    exact ⟨ret_i64 (by omega), rfl⟩

theorem l1Add_any (a b : Int) (ha : 0 ≤ a) (ha' : a ≤ 1000000000000) (hb : 0 ≤ b) (hb' : b ≤ 1000000000000) (w : World) : Calls Try.prog 48 #[.int .i64 a, .int .i64 b] w fun e w' => e = .returned (.int .i64 (min 1000000000000 (a + b))) ∧ w' = w := by
  go_enter Try.func48, Try.ntmps48
  go_wp2_with (go_at_call 87; refine (l1Min_any _ _ _).mono ?_; rintro e w1 ⟨rfl, rfl⟩)
  go_ret
  exact ⟨rfl, rfl⟩

theorem plus_any (a b : Int) (ha : 0 ≤ a) (ha' : a ≤ 1000000000000) (hb : 0 ≤ b) (hb' : b ≤ 1000000000000) (w : World) : Calls Try.prog 92 #[.int .i64 a, .int .i64 b] w fun e w' => e = .returned (.int .i64 (min 1000000000000 (a + b))) ∧ w' = w := by
  go_enter Try.func92, Try.ntmps92
  go_wp2 <;>
  · go_ret
    exact ⟨ret_i64 (by omega), rfl⟩

end Go.Proofs.Ytjabllghohapgah

/-
  A region that draws its order, taken by hand: an operation whose guard says no.
-/
set_option linter.unusedVariables false
set_option linter.unusedSimpArgs false
namespace Go.Proofs.Ytjabllghohapgah
open Go

section
variable {P : Program} {ops : Array Oper} {Q : Exit → Act → World → Prop} {md : Region.Mode} {S : World → Prop}
/-- An operation that is not wanted yields nothing, in whatever order. -/
theorem skipH (i : Nat) (d : Option Tmp) {oi : Oper} {fuel : Nat} {listed : Array Bool} {a : Act} {w : World} (hi : ops[i]? = some oi) (hd : oi.dst = d)
    (hs : Region.noSelect ops = true) (hf : Region.free md ops listed i = true) (hr : (Region.ready md ops listed).contains i = true)
    (hQ : ∀ c a w, Q (.panic c) (a.put oi.dst undef) w → Q (.panic c) a w) (hw : Region.wanted oi (yielded ops a.tmps) = false) (hS : S w)
    (h : wpAnyH P md ops Q S fuel (listed.setIfInBounds i true) (a.put d undef) w) : wpAnyH P md ops Q S (fuel + 1) listed a w :=
  wpAnyH_take hi hs hf hr hQ (.inr ⟨hw, rfl⟩) hS (by rw [hd]; exact h)
/-- The same of one that is alone ready. -/
theorem skip1H (i : Nat) (d : Option Tmp) {oi : Oper} {fuel : Nat} {listed : Array Bool} {a : Act} {w : World} (hi : ops[i]? = some oi) (hd : oi.dst = d) (hr : Region.ready md ops listed = [i])
    (hw : Region.wanted oi (yielded ops a.tmps) = false) (hS : S w)
    (h : wpAnyH P md ops Q S fuel (listed.setIfInBounds i true) (a.put d undef) w) : wpAnyH P md ops Q S (fuel + 1) listed a w :=
  wpAnyH_ready hr (by simp) (AllReadyH.cons hi (fun K hK => by rw [if_neg (by rw [hw]; simp)]; exact hK.out _ _ hS (fun _ => by rw [hd]; exact h)) AllReadyH.nil)
/-- One that yields in every world that keeps to S. -/
theorem takeH (i : Nat) (d : Option Tmp) (v : Value) {oi : Oper} {fuel : Nat} {listed : Array Bool} {a : Act} {w : World} (hi : ops[i]? = some oi) (hd : oi.dst = d)
    (hs : Region.noSelect ops = true) (hf : Region.free md ops listed i = true) (hr : (Region.ready md ops listed).contains i = true)
    (hQ : ∀ c a w, Q (.panic c) (a.put oi.dst v) w → Q (.panic c) a w) (hw : Region.wanted oi (yielded ops a.tmps) = true) (hS : S w) (hy : ∀ w, S w → (execOp a.eval oi).run P w = .ok (.value v) w)
    (h : wpAnyH P md ops Q S fuel (listed.setIfInBounds i true) (a.put d v) w) : wpAnyH P md ops Q S (fuel + 1) listed a w :=
  wpAnyH_take hi hs hf hr hQ (.inl ⟨hw, hy⟩) hS (by rw [hd]; exact h)
/-- An operation that is alone ready and wanted. -/
theorem step1H (i : Nat) (oi : Oper) {fuel : Nat} {listed : Array Bool} {a : Act} {w : World} (hi : ops[i]? = some oi) (hr : Region.ready md ops listed = [i])
    (hw : Region.wanted oi (yielded ops a.tmps) = true) (h : Oper.wp P oi a w (fun a' w' => S w' ∧ wpAnyH P md ops Q S fuel (listed.setIfInBounds i true) a' w') Q) : wpAnyH P md ops Q S (fuel + 1) listed a w :=
  wpAnyH_ready hr (by simp) (AllReadyH.cons hi (fun K hK => by rw [if_pos hw]; exact Oper.wp_mono (fun a' w' h' => hK.out _ _ h'.1 (fun _ => h'.2)) h) AllReadyH.nil)
end

end Go.Proofs.Ytjabllghohapgah

/-
  The document's l7Unpack.
-/
set_option linter.unusedVariables false
set_option linter.unusedSimpArgs false
namespace Go.Proofs.Ytjabllghohapgah
open Go.RowKit
attribute [local go_sem ↓] Go.wp_at_zero Go.wp_at_succ

def hsB (m : Nat) (L H : Nat → Int) (a b : Int) : Bool := decide (fnd L H a b m < m ∧ L (fnd L H a b m) = a ∧ H (fnd L H a b m) = b)
theorem hsB_iff {m : Nat} {L H : Nat → Int} {a b : Int} : hsB m L H a b = true ↔ Hs m L H a b := by
  unfold hsB
  rw [decide_eq_true_eq]
  exact ⟨fun h => ⟨_, h⟩, fun h => fnd_at m h⟩
/-- What a way is unpacked from, of a map, an order, edges and a metric. -/
def netOf (n : Nat) (F T G P : Nat → Int) (m : Nat) (L H U V : Nat → Int) : Net :=
  { hs := fun a b => hsB m L H a b, D := fun a b => V (fnd L H a b m), U := fun a b => U (fnd L H a b m), O := P, lw := fun a b => lastW F T G a b n }
theorem l4Find_net {p : Int} {L H : Nat → Int} {m : Nat} (hE : edB p L H m = true) (eo : Option Addr) (ecap : Nat) (a b : Int) (hm : m ≤ 1048576) (w : World) (hr : ERow w eo m L H) :
    Calls Try.prog 47 #[.slice eo m ecap, .int .i64 a, .int .i64 b] w fun e w' => ∃ r : Int, e = .returned (.int .i64 r) ∧ (hsB m L H a b = true → r = (fnd L H a b m : Int) ∧ fnd L H a b m < m) ∧ (hsB m L H a b = false → r < 0) ∧ Below w.heap.size w w' := by
  cases h : hsB m L H a b with
  | true =>
    have hf := fnd_at m (hsB_iff.1 h)
    exact (l4Find_is eo m ecap L H a b (fnd L H a b m) hf.1 hf.2.1 hf.2.2 (fun j hj h1 h2 => (fnd_is hE hj h1 h2).symm) hm w hr).mono fun e w' ⟨h1, h2⟩ => ⟨_, h1, fun _ => ⟨rfl, hf.1⟩, fun h => (by cases h), h2⟩
  | false =>
    exact (l4Find_any eo m ecap L H a b hm w hr).mono fun e w' ⟨r, h1, h2, h3⟩ => ⟨r, h1, fun h => (by cases h), fun _ => h2.2 (fun hs => by rw [hsB_iff.2 hs] at h; cases h), h3⟩
/-- Where a map, an order, edges and a metric lie. -/
structure NRows (w : World) (ao : Option Addr) (n : Nat) (F T G : Nat → Int) (po : Option Addr) (k : Nat) (P : Nat → Int) (eo : Option Addr) (m : Nat) (L H : Nat → Int) (uo : Option Addr) (U : Nat → Int) (vo : Option Addr) (V : Nat → Int) : Prop where
  arcs : Row w ao n F T G
  ord : IRow w po k P
  eds : ERow w eo m L H
  up : IRow w uo m U
  dn : IRow w vo m V
theorem NRows.below {w w' : World} {B : Nat} {ao : Option Addr} {n : Nat} {F T G : Nat → Int} {po : Option Addr} {k : Nat} {P : Nat → Int} {eo : Option Addr} {m : Nat} {L H : Nat → Int} {uo : Option Addr} {U : Nat → Int} {vo : Option Addr} {V : Nat → Int} (h : NRows w ao n F T G po k P eo m L H uo U vo V) (hb : Below B w w') (hB : w.heap.size ≤ B) : NRows w' ao n F T G po k P eo m L H uo U vo V :=
  ⟨h.arcs.below hb hB, h.ord.below hb hB, h.eds.below hb hB, h.up.below hb hB, h.dn.below hb hB⟩

theorem lown_lit2 (w : World) {base : Nat} (a b : Int) (hb : base ≤ w.heap.size) : LOwn (w.alloc (.cells #[.int .i64 a, .int .i64 b] 2)) base (some ⟨w.heap.size, 0, none⟩) 2 [a, b] := by
  have := World.ownsRow_lit (base := base) (e := 2) (size := 1) w #[.int .i64 a, .int .i64 b] 2 hb (by unfold maxLen; omega) rfl
  simpa [LOwn, lcells] using this
/-- The boxes of the three arguments, in a later world. -/
structure U3 (w W : World) (p : Int) (ao : Option Addr) (n cap : Nat) (po : Option Addr) (k pcap : Nat) (eo : Option Addr) (m ecap : Nat) (uo : Option Addr) (ucap : Nat) (vo : Option Addr) (vcap : Nat) : Prop where
  bel : Below w.heap.size w W
  g0 : W.cell? ⟨w.heap.size, 0, none⟩ = some (.int .i64 p)
  g1 : W.cell? ⟨w.heap.size, 1, none⟩ = some (.slice ao n cap)
  h0 : W.cell? ⟨w.heap.size + 1, 0, none⟩ = some (.slice po k pcap)
  h1 : W.cell? ⟨w.heap.size + 1, 1, none⟩ = some (.slice eo m ecap)
  m0 : W.cell? ⟨w.heap.size + 2, 0, none⟩ = some (.slice uo m ucap)
  m1 : W.cell? ⟨w.heap.size + 2, 1, none⟩ = some (.slice vo m vcap)
  sz : w.heap.size + 3 ≤ W.heap.size
theorem u3_new (w : World) {p : Int} {ao : Option Addr} {n cap : Nat} {po : Option Addr} {k pcap : Nat} {eo : Option Addr} {m ecap : Nat} {uo : Option Addr} {ucap : Nat} {vo : Option Addr} {vcap : Nat} : U3 w (((w.alloc (.cells #[.int .i64 p, .slice ao n cap] 47)).alloc (.cells #[.slice po k pcap, .slice eo m ecap] 33)).alloc (.cells #[.slice uo m ucap, .slice vo m vcap] 35)) p ao n cap po k pcap eo m ecap uo ucap vo vcap :=
  ⟨(((Below.refl _ _).alloc (Nat.le_refl _) _).alloc (by simp) _).alloc (by simp; omega) _, by simp [go_sem], by simp [go_sem], by simp [go_sem], by simp [go_sem], by simp [go_sem], by simp [go_sem], by simp⟩
theorem U3.next {w W W' : World} {p : Int} {ao : Option Addr} {n cap : Nat} {po : Option Addr} {k pcap : Nat} {eo : Option Addr} {m ecap : Nat} {uo : Option Addr} {ucap : Nat} {vo : Option Addr} {vcap : Nat} (h : U3 w W p ao n cap po k pcap eo m ecap uo ucap vo vcap) (hb : Below W.heap.size W W') : U3 w W' p ao n cap po k pcap eo m ecap uo ucap vo vcap :=
  ⟨below_next h.bel (Nat.le_refl _) hb, keep_cell hb (Nat.le_refl _) h.g0, keep_cell hb (Nat.le_refl _) h.g1, keep_cell hb (Nat.le_refl _) h.h0, keep_cell hb (Nat.le_refl _) h.h1, keep_cell hb (Nat.le_refl _) h.m0, keep_cell hb (Nat.le_refl _) h.m1, Nat.le_trans h.sz hb.size⟩

end Go.Proofs.Ytjabllghohapgah

/-
  Is an arc right: the program's helpers.
-/
set_option linter.unusedVariables false
set_option linter.unusedSimpArgs false
namespace Go.Proofs.Ytjabllghohapgah
open Go.RowKit

theorem weightOk_any (x : Int) (w : World) :
    Calls Try.prog 102 #[.int .i64 x] w fun e w' => e = .returned (.bool (inB x 1 1000000)) ∧ w' = w := by
  by_cases h1 : 1 ≤ x <;> by_cases h2 : x ≤ 1000000 <;>
  · go_enter Try.func102, Try.ntmps102
    go_wp2
    go_ret
    exact ⟨by simp [inB, h1, h2], rfl⟩
set_option maxHeartbeats 800000 in
theorem arcOk_any (f t g p : Int) (w : World) :
    Calls Try.prog 116 #[.agg #[.int .i64 f, .int .i64 t, .int .i64 g], .int .i64 p] w fun e w' => e = .returned (.bool (arcB f t g p)) ∧ Below w.heap.size w w' := by
  unfold arcB
  rcases Bool.eq_false_or_eq_true (inB f 0 (p - 1)) with h1 | h1
  · rcases Bool.eq_false_or_eq_true (inB t 0 (p - 1)) with h2 | h2
    · rcases Bool.eq_false_or_eq_true (f != t) with h3 | h3 <;>
      · go_enter Try.func116, Try.ntmps116
        go_wp2_with (first | (go_at_call 79; refine (placeOk_any _ _ _).mono ?_; rintro e w1 ⟨rfl, rfl⟩) | (go_at_call 102; refine (weightOk_any _ _).mono ?_; rintro e w1 ⟨rfl, rfl⟩))
        go_ret
        exact ⟨by simp [h1, h2, h3], (Below.refl _ _).alloc (Nat.le_refl _) _⟩
    · go_enter Try.func116, Try.ntmps116
      go_wp2_with (first | (go_at_call 79; refine (placeOk_any _ _ _).mono ?_; rintro e w1 ⟨rfl, rfl⟩) | (go_at_call 102; refine (weightOk_any _ _).mono ?_; rintro e w1 ⟨rfl, rfl⟩))
      go_ret
      exact ⟨by simp [h1, h2], (Below.refl _ _).alloc (Nat.le_refl _) _⟩
  · go_enter Try.func116, Try.ntmps116
    go_wp2_with (first | (go_at_call 79; refine (placeOk_any _ _ _).mono ?_; rintro e w1 ⟨rfl, rfl⟩) | (go_at_call 102; refine (weightOk_any _ _).mono ?_; rintro e w1 ⟨rfl, rfl⟩))
    go_ret
    exact ⟨by simp [h1], (Below.refl _ _).alloc (Nat.le_refl _) _⟩

end Go.Proofs.Ytjabllghohapgah

/-
  GraphOk, the program's helpers.
-/
set_option linter.unusedVariables false
set_option linter.unusedSimpArgs false
namespace Go.Proofs.Ytjabllghohapgah
open Go.RowKit

theorem endsOf_any (f t g : Int) (w : World) :
    Calls Try.prog 101 #[.agg #[.int .i64 f, .int .i64 t, .int .i64 g]] w fun e w' => e = .returned (.agg #[.int .i64 f, .int .i64 t]) ∧ Below w.heap.size w w' := by
  go_enter Try.func101, Try.ntmps101
  go_wp2
  simp [bodyPost, results, Try.results101, go_sem]
  exact ((Below.refl _ _).alloc (Nat.le_refl _) _).alloc (by simp) _
set_option maxHeartbeats 800000 in
theorem below_any (f t f' t' : Int) (w : World) :
    Calls Try.prog 117 #[.agg #[.int .i64 f, .int .i64 t], .agg #[.int .i64 f', .int .i64 t']] w fun e w' => e = .returned (.bool (upB f t f' t')) ∧ Below w.heap.size w w' := by
  unfold upB
  by_cases h1 : f < f'
  · go_enter Try.func117, Try.ntmps117
    go_wp2
    go_ret
    exact ⟨by simp [h1], ((Below.refl _ _).alloc (Nat.le_refl _) _).alloc (by simp) _⟩
  · rcases Bool.eq_false_or_eq_true (f == f') with h2 | h2
    · by_cases h3 : t < t' <;>
      · go_enter Try.func117, Try.ntmps117
        go_wp2
        go_ret
        exact ⟨by simp [h1, h2, h3], ((Below.refl _ _).alloc (Nat.le_refl _) _).alloc (by simp) _⟩
    · go_enter Try.func117, Try.ntmps117
      go_wp2
      go_ret
      exact ⟨by simp [h1, h2], ((Below.refl _ _).alloc (Nat.le_refl _) _).alloc (by simp) _⟩

end Go.Proofs.Ytjabllghohapgah

/-
  The program's GraphOk answers 'graphB' of the map's places and arcs, for every map.
-/
set_option linter.unusedVariables false
set_option linter.unusedSimpArgs false
namespace Go.Proofs.Ytjabllghohapgah
open Go.RowKit
attribute [local go_sem ↓] Go.wp_at_zero Go.wp_at_succ

set_option maxHeartbeats 1600000 in
theorem implGraphOk_any (p : Int) (ao : Option Addr) (n cap : Nat) (F T G : Nat → Int) (hn : n ≤ 1048576) (w : World) (hr : Row w ao n F T G) :
    Calls Try.prog 99 #[.agg #[.int .i64 p, .slice ao n cap]] w fun e w' => e = .returned (.bool (graphB p n F T G)) ∧ Below w.heap.size w w' := by
  by_cases h1 : p < 1
  · go_enter Try.func99, Try.ntmps99
    go_wp2
    go_ret
    exact ⟨ret_bool (by simp [graphB, inB]; omega), (Below.refl _ _).alloc (Nat.le_refl _) _⟩
  by_cases h2 : 24 < p
  · go_enter Try.func99, Try.ntmps99
    go_wp2
    go_ret
    exact ⟨ret_bool (by simp [graphB, inB]; omega), (Below.refl _ _).alloc (Nat.le_refl _) _⟩
  have hin : Hid (inB p 1 24 = true) := by show inB p 1 24 = true; simp [inB]; omega
  by_cases h3 : 100 < n
  · go_enter Try.func99, Try.ntmps99
    go_wp2
    go_ret
    exact ⟨ret_bool (by simp [graphB]; omega), (Below.refl _ _).alloc (Nat.le_refl _) _⟩
  have hn' : Hid (decide (n ≤ 100) = true) := by show decide (n ≤ 100) = true; simp; omega
  go_enter Try.func99, Try.ntmps99
  go_wp2
  go_loopw [22] (fun i wr => ∃ k : Nat, k ≤ n ∧ i = .int .i64 k ∧ arcsB p F T G k = true ∧ Below (w.heap.size + 1) (w.alloc (.cells #[.int .i64 p, .slice ao n cap] 47)) wr) (fun i _ => n - (intOf i).toNat)
  case atStart => exact ⟨0, Nat.zero_le _, rfl, rfl, Below.refl _ _⟩
  case round =>
    obtain ⟨k, hk, rfl, hok, hbel⟩ := hrel
    have g0 : wr.cell? ⟨w.heap.size, 0, none⟩ = some (.int .i64 p) := by rw [hbel.cell (by simp)]; simp [go_sem]
    have g1 : wr.cell? ⟨w.heap.size, 1, none⟩ = some (.slice ao n cap) := by rw [hbel.cell (by simp)]; simp [go_sem]
    have hsz : w.heap.size < wr.heap.size := by have := hbel.size; simp at this; omega
    have HOK : Hid (arcsB p F T G k = true) := hok
    clear hok
    by_cases hlt : k < n
    rotate_left
    · have hkn : k = n := by omega
      subst hkn
      go_wp2
      go_ret
      exact ⟨ret_bool (by simp [graphB, hin.out, hn'.out, HOK.out]), unbox hbel (by omega)⟩
    obtain ⟨b, o, hao, c0, c1, c2⟩ := ((hr.alloc _).below hbel (by simp)) k hlt
    subst hao
    rcases Bool.eq_false_or_eq_true (arcB (F k) (T k) (G k) p) with ha | ha
    rotate_left
    · go_wp2_with (go_at_call 116; refine (arcOk_any _ _ _ _ _).mono ?_; rintro e w1 ⟨rfl, hb1⟩)
      go_ret
      exact ⟨ret_bool (by simp [graphB, hin.out, arcsB_no ha n hlt]), unbox ((hbel.alloc (by omega) _).trans (hb1.mono (by simp; omega))) (by omega)⟩
    by_cases h0 : 0 < k
    rotate_left
    · have hd : decide (0 < (k : Int)) = false := by simp; omega
      go_wp2_with (go_at_call 116; refine (arcOk_any _ _ _ _ _).mono ?_; rintro e w1 ⟨rfl, hb1⟩)
      go_quiet (fail)
      go_wp2
      go_roundw
      case rel => exact ⟨k + 1, by omega, by go_num, arcsB_step HOK.out ha (Or.inl (by omega)), below_drewN ((hbel.alloc (by omega) _).trans (hb1.mono (by simp; omega))) _⟩
      case measure => simp [intOf]; omega
    have hbw : b < wr.heap.size := lt_of_cell c0
    obtain ⟨b', o', hao', d0, d1, d2⟩ := ((hr.alloc _).below hbel (by simp)) (k - 1) (by omega)
    simp only [Option.some.injEq, Addr.mk.injEq, and_true] at hao'
    obtain ⟨rfl, rfl⟩ := hao'
    have hk1 : (0 : Int) ≤ (k : Int) - 1 := by omega
    have hk2 : (k : Int) - 1 < (n : Int) := by omega
    have hk3 : IntKind.i64.wrap ((k : Int) - 1) = (k : Int) - 1 := by rw [IntKind.wrap_i64]; omega
    have hk4 : ((k : Int) - 1).toNat = k - 1 := by omega
    have hk5 : (1 : Int) ≤ (k : Int) := by omega
    have hk6 : (k : Int) ≤ (n : Int) := by omega
    have hk7 : 1 ≤ k := by omega
    rcases Bool.eq_false_or_eq_true (upB (F (k - 1)) (T (k - 1)) (F k) (T k)) with hu | hu
    · go_wp2_with (go_at_call 116; refine (arcOk_any _ _ _ _ _).mono ?_; rintro e w1 ⟨rfl, hb1⟩)
      have hbw1 := unbox hb1 (by simp)
      have hA := (hbel.alloc (by omega) _).trans (hb1.mono (by simp; omega))
      have s0 := keep_cell hbw1 (Nat.le_refl _) g1
      have s1 := keep_cell hbw1 (Nat.le_refl _) d0
      have s2 := keep_cell hbw1 (Nat.le_refl _) d1
      have s3 := keep_cell hbw1 (Nat.le_refl _) d2
      have s4 := keep_cell hb1 (Nat.le_refl _) (b := wr.heap.size) (o := 0) (by simp [go_sem]; rfl)
      have s5 := keep_cell hb1 (Nat.le_refl _) (b := wr.heap.size) (o := 1) (by simp [go_sem]; rfl)
      have s6 := keep_cell hb1 (Nat.le_refl _) (b := wr.heap.size) (o := 2) (by simp [go_sem]; rfl)
      go_region_held3 (fun w' => w'.cell? ⟨w.heap.size, 1, none⟩ = some (.slice (some ⟨b, o, none⟩) n cap) ∧ w'.cell? ⟨b, o + (k - 1) * 3, none⟩ = some (.int .i64 (F (k - 1))) ∧ w'.cell? ⟨b, o + (k - 1) * 3 + 1, none⟩ = some (.int .i64 (T (k - 1))) ∧ w'.cell? ⟨b, o + (k - 1) * 3 + 2, none⟩ = some (.int .i64 (G (k - 1))) ∧ w'.cell? ⟨wr.heap.size, 0, none⟩ = some (.int .i64 (F k)) ∧ w'.cell? ⟨wr.heap.size, 1, none⟩ = some (.int .i64 (T k)) ∧ w'.cell? ⟨wr.heap.size, 2, none⟩ = some (.int .i64 (G k)))
        (first | (go_split_ands; refine ⟨?_, ?_, ?_, ?_, ?_, ?_, ?_⟩ <;> exact keep_cell ‹_› (Nat.le_refl _) (by assumption)) | go_keep)
        (first | (go_at_call 101; refine (endsOf_any _ _ _ _).mono ?_; rintro e w2 ⟨rfl, hb2⟩; (first | have hA := below_next hA (by simp) hb2 | have hA := below_next hA.drew (by simp) hb2)) | (go_at_call 117; refine (below_any _ _ _ _ _).mono ?_; rintro e w3 ⟨rfl, hb3⟩; have hA := below_next hA (by simp) hb3))
      go_wp2
      go_roundw
      case rel => exact ⟨k + 1, by omega, by go_num, arcsB_step HOK.out ha (Or.inr hu), hA⟩
      case measure => simp [intOf]; omega
    · go_wp2_with (go_at_call 116; refine (arcOk_any _ _ _ _ _).mono ?_; rintro e w1 ⟨rfl, hb1⟩)
      have hbw1 := unbox hb1 (by simp)
      have hA := (hbel.alloc (by omega) _).trans (hb1.mono (by simp; omega))
      have s0 := keep_cell hbw1 (Nat.le_refl _) g1
      have s1 := keep_cell hbw1 (Nat.le_refl _) d0
      have s2 := keep_cell hbw1 (Nat.le_refl _) d1
      have s3 := keep_cell hbw1 (Nat.le_refl _) d2
      have s4 := keep_cell hb1 (Nat.le_refl _) (b := wr.heap.size) (o := 0) (by simp [go_sem]; rfl)
      have s5 := keep_cell hb1 (Nat.le_refl _) (b := wr.heap.size) (o := 1) (by simp [go_sem]; rfl)
      have s6 := keep_cell hb1 (Nat.le_refl _) (b := wr.heap.size) (o := 2) (by simp [go_sem]; rfl)
      go_region_held3 (fun w' => w'.cell? ⟨w.heap.size, 1, none⟩ = some (.slice (some ⟨b, o, none⟩) n cap) ∧ w'.cell? ⟨b, o + (k - 1) * 3, none⟩ = some (.int .i64 (F (k - 1))) ∧ w'.cell? ⟨b, o + (k - 1) * 3 + 1, none⟩ = some (.int .i64 (T (k - 1))) ∧ w'.cell? ⟨b, o + (k - 1) * 3 + 2, none⟩ = some (.int .i64 (G (k - 1))) ∧ w'.cell? ⟨wr.heap.size, 0, none⟩ = some (.int .i64 (F k)) ∧ w'.cell? ⟨wr.heap.size, 1, none⟩ = some (.int .i64 (T k)) ∧ w'.cell? ⟨wr.heap.size, 2, none⟩ = some (.int .i64 (G k)))
        (first | (go_split_ands; refine ⟨?_, ?_, ?_, ?_, ?_, ?_, ?_⟩ <;> exact keep_cell ‹_› (Nat.le_refl _) (by assumption)) | go_keep)
        (first | (go_at_call 101; refine (endsOf_any _ _ _ _).mono ?_; rintro e w2 ⟨rfl, hb2⟩; (first | have hA := below_next hA (by simp) hb2 | have hA := below_next hA.drew (by simp) hb2)) | (go_at_call 117; refine (below_any _ _ _ _ _).mono ?_; rintro e w3 ⟨rfl, hb3⟩; have hA := below_next hA (by simp) hb3))
      go_wp2
      go_ret
      exact ⟨ret_bool (by simp [graphB, hin.out, arcsB_down h0 hu n hlt]), unbox hA (by omega)⟩

end Go.Proofs.Ytjabllghohapgah

/-
  Keys of two numbers, and maps of the call's own in a later world: no function of the program.
-/
set_option linter.unusedVariables false
set_option linter.unusedSimpArgs false
namespace Go.Proofs.Ytjabllghohapgah
open Go.ChangeShapes Go.WideShapes Go.ChangeAt Go.RowKit Go.Maps

theorem key_two {P : Program} {k : TypeId} {f0 f1 : Field} (hs : P.underlying k = some (.struct #[f0, f1])) (hk : P.keyType k = true) (hC : P.cellsOf k = 2) (h0 : P.underlying f0.type = some (.int .i64)) (h1 : P.underlying f1.type = some (.int .i64))
    (o0 : f0.offset = 0) (o1 : f1.offset = 1) (c0 : P.cellsOf f0.type = 1) (c1 : P.cellsOf f1.type = 1) (n0 : (f0.name != "_") = true) (n1 : (f1.name != "_") = true) (hm : ∃ m, P.types.size = m + 1)
    {f t : Int} (hf : (Lit.int .i64 f).wf = true) (ht : (Lit.int .i64 t).wf = true) : keyOf P k (.agg #[.int .i64 f, .int .i64 t]) = some (.string (keyBytes [.int .i64 f, .int .i64 t])) := by
  obtain ⟨m, hm⟩ := hm
  simp at n0 n1
  simp [keyOf, hs, hk, Value.formed, hC, Value.cells, hm, Program.keyLits, h0, h1, o0, o1, c0, c1, n0, n1, hf, ht]

theorem ownsMap_block {H : Type} {P : Program} {k : TypeId} {R : Value → Option (DataW H × List MemPlace)} {b n : Nat} {D : DataW H} {w w' : World} (h : w.ownsMap P k R b n D) (e : w'.heap[b]? = w.heap[b]?) : w'.ownsMap P k R b n D := by
  unfold World.ownsMap at h ⊢
  rw [e]; exact h
theorem ownsMap_below {H : Type} {P : Program} {k : TypeId} {R : Value → Option (DataW H × List MemPlace)} {b n : Nat} {D : DataW H} {w w' : World} (h : w.ownsMap P k R b n D) (hb : Below w.heap.size w w') : w'.ownsMap P k R b n D :=
  ownsMap_block h (hb.block b h.lt)

end Go.Proofs.Ytjabllghohapgah

/-
  The map from an arc's ends to its number: what its keys read as, and what it holds after so many arcs.
-/
set_option linter.unusedVariables false
set_option linter.unusedSimpArgs false
namespace Go.Proofs.Ytjabllghohapgah
open Go.ChangeShapes Go.WideShapes Go.ChangeAt Go.RowKit Go.Maps

set_option maxRecDepth 100000 in
theorem Try.rowEnds : (130 : TypeId) < Try.prog.types.size := of_decide_eq_true (by kernel_rfl)
theorem Try.wideEnds : (match Try.prog.underlying 130 with | some (.array _ _) | some (.struct _) => true | _ => false) = true := by rw [Try.underlying130]
set_option maxRecDepth 100000 in
theorem Try.keyLaw : Keyed Try.prog 130 := Keyed.of_law (deep_law_laid Try.laidOut (m := 2) (by omega) Try.rowEnds (by kernel_rfl) Try.wideEnds)
theorem Try.keyType : Try.prog.keyType 130 = true := by kernel_rfl
theorem Try.cellsEnds : Try.prog.cellsOf 130 = 2 := by kernel_rfl
theorem Try.mapZero (w : World) : (zeroValue 3).run Try.prog w = .ok (.int .i64 0) w := by kernel_rfl
set_option maxRecDepth 100000 in
theorem Try.someTypes : ∃ m, Try.prog.types.size = m + 1 := ⟨_, (Nat.succ_pred_eq_of_pos (Nat.lt_of_le_of_lt (Nat.zero_le _) Try.rowEnds)).symm⟩

def kl (f t : Int) : Lit := .string (keyBytes [.int .i64 f, .int .i64 t])
set_option maxRecDepth 100000 in
theorem key_ends (f t : Int) (hf : (Lit.int .i64 f).wf = true) (ht : (Lit.int .i64 t).wf = true) : keyOf Try.prog 130 (.agg #[.int .i64 f, .int .i64 t]) = some (kl f t) := by
  exact key_two Try.underlying130 Try.keyType Try.cellsEnds Try.underlying2 Try.underlying2 rfl rfl Try.cellsInt Try.cellsInt (by decide) (by decide) Try.someTypes hf ht
theorem kl_inj {f t f' t' : Int} (hf : (Lit.int .i64 f).wf = true) (ht : (Lit.int .i64 t).wf = true) (hf' : (Lit.int .i64 f').wf = true) (ht' : (Lit.int .i64 t').wf = true) (h : kl f t = kl f' t') : f = f' ∧ t = t' := by
  have := Try.keyLaw.inj (key_ends f t hf ht) (by rw [h]; exact key_ends f' t' hf' ht')
  simpa using this
theorem kl_key (f t : Int) : WideAt.IsKeyLit (kl f t) := trivial

/-- What the map holds after k arcs. -/
def nums (F T : Nat → Int) : Nat → DataW Unit
  | 0 => .map []
  | k + 1 => (nums F T k).put (kl (F k) (T k)) (.lit (.int .i64 (k : Int)))
theorem nums_isMap (F T : Nat → Int) : ∀ k, IsMap (nums F T k)
  | 0 => isMap_empty
  | k + 1 => (nums_isMap F T k).put _ _

def WfTo (F T : Nat → Int) (n : Nat) : Prop := ∀ k, k < n → (Lit.int .i64 (F k)).wf = true ∧ (Lit.int .i64 (T k)).wf = true

/-- A look-up in it: there is none, and then the key is not there; or it is there with its last number. -/
theorem nums_look (F T : Nat → Int) (a b : Int) (ha : (Lit.int .i64 a).wf = true) (hb : (Lit.int .i64 b).wf = true) : ∀ n, WfTo F T n →
    (Maps.has (nums F T n) (kl a b) = false ∧ ∀ k, k < n → ¬ (F k = a ∧ T k = b)) ∨
    ∃ k, k < n ∧ F k = a ∧ T k = b ∧ Maps.has (nums F T n) (kl a b) = true ∧ (nums F T n).atKey (kl a b) (.lit (.int .i64 0)) = .lit (.int .i64 (k : Int))
  | 0, _ => Or.inl ⟨rfl, fun k hk => by omega⟩
  | n + 1, hw => by
    by_cases h : F n = a ∧ T n = b
    · obtain ⟨rfl, rfl⟩ := h
      exact Or.inr ⟨n, by omega, rfl, rfl, has_put_same (nums_isMap F T n) (kl_key _ _) _, atKey_put_same (nums_isMap F T n) (kl_key _ _) _ _⟩
    · have hne : kl a b ≠ kl (F n) (T n) := fun e => by
        have := kl_inj ha hb (hw n (by omega)).1 (hw n (by omega)).2 e
        exact h ⟨this.1.symm, this.2.symm⟩
      rcases nums_look F T a b ha hb n (fun k hk => hw k (by omega)) with ⟨h1, h2⟩ | ⟨k, hk, h1, h2, h3, h4⟩
      · exact Or.inl ⟨by rw [nums, has_put_other hne]; exact h1, fun k hk => by
          by_cases e : k = n
          · subst e; exact h
          · exact h2 k (by omega)⟩
      · exact Or.inr ⟨k, by omega, h1, h2, by rw [nums, has_put_other hne]; exact h3, by rw [nums, atKey_put_other hne]; exact h4⟩

theorem make_map (n : Nat) (w : World) : (Instr.makeMap 109 (some (.int .i64 (n : Int)))).run Try.prog w = .ok (.map (some w.heap.size)) (w.alloc (.map #[] 0)) := by
  simp [Instr.makeMap, run_underlying Try.underlying109, asInt, asIntOf, newObj]
  rfl

end Go.Proofs.Ytjabllghohapgah

/-
  The program's map of arc numbers, walked: it holds the number of each arc at its ends.
-/
set_option linter.unusedVariables false
set_option linter.unusedSimpArgs false
namespace Go.Proofs.Ytjabllghohapgah
open Go.RowKit Go.Maps

set_option maxHeartbeats 1000000 in
theorem arcNumbers_any (p : Int) (ao : Option Addr) (n cap : Nat) (F T G : Nat → Int) (hn : n ≤ 1048576) (hwf : WfTo F T n) (w : World) (hr : Row w ao n F T G) :
    Calls Try.prog 100 #[.agg #[.int .i64 p, .slice ao n cap]] w fun e w' => e = .returned (.map (some (w.heap.size + 1))) ∧ w'.ownsMap Try.prog 130 (plainElem Try.prog 3) (w.heap.size + 1) n (nums F T n) ∧ Below w.heap.size w w' := by
  have hmk := make_map n
  go_enter Try.func100, Try.ntmps100
  go_wp2
  clear hmk
  go_loopw [13] (fun i wr => ∃ k : Nat, k ≤ n ∧ i = .int .i64 k ∧ wr.ownsMap Try.prog 130 (plainElem Try.prog 3) (w.heap.size + 1) k (nums F T k) ∧ Below (w.heap.size + 1) (w.alloc (.cells #[.int .i64 p, .slice ao n cap] 47)) wr) (fun i _ => n - (intOf i).toNat)
  case atStart => exact ⟨0, Nat.zero_le _, rfl, by simpa [nums] using World.ownsMap_made (w.alloc (.cells #[.int .i64 p, .slice ao n cap] 47)) Try.prog 130 (plainElem (H := Unit) Try.prog 3), (Below.refl _ _).alloc (by simp) _⟩
  case round =>
    obtain ⟨k, hk, rfl, hown, hbel⟩ := hrel
    have hsz : w.heap.size + 1 < wr.heap.size := hown.lt
    by_cases hlt : k < n
    rotate_left
    · have hkn : k = n := by omega
      subst hkn
      go_wp2
      go_ret
      exact ⟨rfl, hown, unbox hbel (by omega)⟩
    obtain ⟨b, o, hao, c0, c1, c2⟩ := ((hr.alloc _).below hbel (by simp)) k hlt
    subst hao
    have hkey := key_ends (F k) (T k) (hwf k hlt).1 (hwf k hlt).2
    go_wp2_with (first | (go_at_call 101; refine (endsOf_any _ _ _ _).mono ?_; rintro e w1 ⟨rfl, hb1⟩; have hown1 := ownsMap_below (hown.alloc _) hb1) | (at_mapUpdate; refine wpList_mapUpdate_own _ rfl _ _ _ 109 rfl 130 3 Try.keyLaw Try.underlying109 _ (w.heap.size + 1) k _ rfl hown1 (by unfold maxLen; omega) _ _ _ rfl rfl hkey _ [] (plainElem_int Try.underlying3 (WalkArith.wf_i64 (by omega))) ?_; intro w2 hown2 hgrow2))
    go_wp2
    go_roundw
    case rel => exact ⟨k + 1, by omega, by go_num, hown2, (below_next (hbel.alloc (by omega) _) (by simp) hb1).grown hgrow2 (by have := hb1.size; simp at this; omega) (fun j hj => by cases hj; exact Nat.le_refl _)⟩
    case measure => simp [intOf]; omega

end Go.Proofs.Ytjabllghohapgah

/-
  The map from an edge to its number: what its keys read as, and what it holds after so many edges; the walk that fills it.
-/
set_option linter.unusedVariables false
set_option linter.unusedSimpArgs false
namespace Go.Proofs.Ytjabllghohapgah
open Go.ChangeShapes Go.WideShapes Go.ChangeAt Go.RowKit Go.Maps

set_option maxRecDepth 100000 in
theorem Try.rowEdge : (71 : TypeId) < Try.prog.types.size := of_decide_eq_true (by kernel_rfl)
theorem Try.wideEdge : (match Try.prog.underlying 71 with | some (.array _ _) | some (.struct _) => true | _ => false) = true := by rw [Try.underlying71]
set_option maxRecDepth 100000 in
theorem Try.keyLawE : Keyed Try.prog 71 := Keyed.of_law (deep_law_laid Try.laidOut (m := 2) (by omega) Try.rowEdge (by kernel_rfl) Try.wideEdge)
theorem Try.keyTypeE : Try.prog.keyType 71 = true := by kernel_rfl
theorem Try.cellsEdge : Try.prog.cellsOf 71 = 2 := by kernel_rfl
theorem Try.mapZeroE (w : World) : (zeroValue 3).run Try.prog w = .ok (.int .i64 0) w := by kernel_rfl
set_option maxRecDepth 100000 in
theorem Try.someTypesE : ∃ m, Try.prog.types.size = m + 1 := ⟨_, (Nat.succ_pred_eq_of_pos (Nat.lt_of_le_of_lt (Nat.zero_le _) Try.rowEdge)).symm⟩

def ekl (f t : Int) : Lit := .string (keyBytes [.int .i64 f, .int .i64 t])
set_option maxRecDepth 100000 in
theorem key_edge (f t : Int) (hf : (Lit.int .i64 f).wf = true) (ht : (Lit.int .i64 t).wf = true) : keyOf Try.prog 71 (.agg #[.int .i64 f, .int .i64 t]) = some (ekl f t) := by
  exact key_two Try.underlying71 Try.keyTypeE Try.cellsEdge Try.underlying2 Try.underlying2 rfl rfl Try.cellsInt Try.cellsInt (by decide) (by decide) Try.someTypesE hf ht
theorem ekl_inj {f t f' t' : Int} (hf : (Lit.int .i64 f).wf = true) (ht : (Lit.int .i64 t).wf = true) (hf' : (Lit.int .i64 f').wf = true) (ht' : (Lit.int .i64 t').wf = true) (h : ekl f t = ekl f' t') : f = f' ∧ t = t' := by
  have := Try.keyLawE.inj (key_edge f t hf ht) (by rw [h]; exact key_edge f' t' hf' ht')
  simpa using this
theorem ekl_key (f t : Int) : WideAt.IsKeyLit (ekl f t) := trivial

/-- What the map holds after k edges. -/
def enums (F T : Nat → Int) : Nat → DataW Unit
  | 0 => .map []
  | k + 1 => (enums F T k).put (ekl (F k) (T k)) (.lit (.int .i64 (k : Int)))
theorem enums_isMap (F T : Nat → Int) : ∀ k, IsMap (enums F T k)
  | 0 => isMap_empty
  | k + 1 => (enums_isMap F T k).put _ _

def EWf (F T : Nat → Int) (n : Nat) : Prop := ∀ k, k < n → (Lit.int .i64 (F k)).wf = true ∧ (Lit.int .i64 (T k)).wf = true

/-- A look-up in it: there is none, and then the key is not there; or it is there with its last number. -/
theorem enums_look (F T : Nat → Int) (a b : Int) (ha : (Lit.int .i64 a).wf = true) (hb : (Lit.int .i64 b).wf = true) : ∀ n, EWf F T n →
    (Maps.has (enums F T n) (ekl a b) = false ∧ ∀ k, k < n → ¬ (F k = a ∧ T k = b)) ∨
    ∃ k, k < n ∧ F k = a ∧ T k = b ∧ Maps.has (enums F T n) (ekl a b) = true ∧ (enums F T n).atKey (ekl a b) (.lit (.int .i64 0)) = .lit (.int .i64 (k : Int))
  | 0, _ => Or.inl ⟨rfl, fun k hk => by omega⟩
  | n + 1, hw => by
    by_cases h : F n = a ∧ T n = b
    · obtain ⟨rfl, rfl⟩ := h
      exact Or.inr ⟨n, by omega, rfl, rfl, has_put_same (enums_isMap F T n) (ekl_key _ _) _, atKey_put_same (enums_isMap F T n) (ekl_key _ _) _ _⟩
    · have hne : ekl a b ≠ ekl (F n) (T n) := fun e => by
        have := ekl_inj ha hb (hw n (by omega)).1 (hw n (by omega)).2 e
        exact h ⟨this.1.symm, this.2.symm⟩
      rcases enums_look F T a b ha hb n (fun k hk => hw k (by omega)) with ⟨h1, h2⟩ | ⟨k, hk, h1, h2, h3, h4⟩
      · exact Or.inl ⟨by rw [enums, has_put_other hne]; exact h1, fun k hk => by
          by_cases e : k = n
          · subst e; exact h
          · exact h2 k (by omega)⟩
      · exact Or.inr ⟨k, by omega, h1, h2, by rw [enums, has_put_other hne]; exact h3, by rw [enums, atKey_put_other hne]; exact h4⟩

theorem make_emap (n : Nat) (w : World) : (Instr.makeMap 96 (some (.int .i64 (n : Int)))).run Try.prog w = .ok (.map (some w.heap.size)) (w.alloc (.map #[] 0)) := by
  simp [Instr.makeMap, run_underlying Try.underlying96, asInt, asIntOf, newObj]
  rfl

set_option maxHeartbeats 1000000 in
theorem edgeNumbers_any (ao : Option Addr) (n cap : Nat) (L H : Nat → Int) (hn : n ≤ 1048576) (hwf : EWf L H n) (w : World) (hr : ERow w ao n L H) :
    Calls Try.prog 90 #[.slice ao n cap] w fun e w' => e = .returned (.map (some w.heap.size)) ∧ w'.ownsMap Try.prog 71 (plainElem Try.prog 3) w.heap.size n (enums L H n) ∧ Below w.heap.size w w' := by
  have hmk := make_emap n
  go_enter Try.func90, Try.ntmps90
  go_wp2
  clear hmk
  go_loopw [11] (fun i wr => ∃ k : Nat, k ≤ n ∧ i = .int .i64 k ∧ wr.ownsMap Try.prog 71 (plainElem Try.prog 3) w.heap.size k (enums L H k) ∧ Below w.heap.size w wr) (fun i _ => n - (intOf i).toNat)
  case atStart => exact ⟨0, Nat.zero_le _, rfl, by simpa [enums] using World.ownsMap_made w Try.prog 71 (plainElem (H := Unit) Try.prog 3), (Below.refl _ _).alloc (by simp) _⟩
  case round =>
    obtain ⟨k, hk, rfl, hown, hbel⟩ := hrel
    have hlt0 : w.heap.size < wr.heap.size := hown.lt
    by_cases hlt : k < n
    rotate_left
    · have hkn : k = n := by omega
      subst hkn
      go_wp2
      go_ret
      exact ⟨rfl, hown, hbel⟩
    obtain ⟨b, o, hao, c0, c1⟩ := (hr.below hbel (Nat.le_refl _)) k hlt
    subst hao
    have hkey := key_edge (L k) (H k) (hwf k hlt).1 (hwf k hlt).2
    have hown1 := hown.alloc (.cells #[.int .i64 (L k), .int .i64 (H k)] 71)
    have hbel1 := hbel.alloc (o := .cells #[.int .i64 (L k), .int .i64 (H k)] 71) hbel.size
    go_wp2_with (at_mapUpdate; refine wpList_mapUpdate_own _ rfl _ _ _ 96 rfl 71 3 Try.keyLawE Try.underlying96 _ w.heap.size k _ rfl hown1 (by unfold maxLen; omega) _ _ _ rfl rfl hkey _ [] (plainElem_int Try.underlying3 (WalkArith.wf_i64 (by omega))) ?_; intro w2 hown2 hgrow2)
    go_wp2
    go_roundw
    case rel => exact ⟨k + 1, by omega, by go_num, hown2, hbel1.grown hgrow2 (by simp; omega) (fun j hj => by cases hj; exact Nat.le_refl _)⟩
    case measure => simp [intOf]; omega

end Go.Proofs.Ytjabllghohapgah

/-
  Two boxes of two cells: an argument's and the result's, in a later world.
-/
set_option linter.unusedVariables false
set_option linter.unusedSimpArgs false
namespace Go.Proofs.Ytjabllghohapgah
open Go.RowKit Go.Maps
attribute [local go_sem ↓] Go.wp_at_zero Go.wp_at_succ

/-- The boxes of an argument and of a result, each of two cells, in a later world. -/
theorem box22 {w W : World} {a0 a1 c0 c1 : Value} {s t : TypeId} (h : Below (w.heap.size + 2) ((w.alloc (.cells #[a0, a1] s)).alloc (.cells #[c0, c1] t)) W) :
    (W.cell? ⟨w.heap.size, 0, none⟩ = some a0 ∧ W.cell? ⟨w.heap.size, 1, none⟩ = some a1) ∧ (W.cell? ⟨w.heap.size + 1, 0, none⟩ = some c0 ∧ W.cell? ⟨w.heap.size + 1, 1, none⟩ = some c1) ∧ (W.frozen? ⟨w.heap.size + 1, 0, none⟩ = false ∧ W.frozen? ⟨w.heap.size + 1, 1, none⟩ = false) ∧ w.heap.size + 2 ≤ W.heap.size := by
  refine ⟨⟨by rw [h.cell (by simp)]; simp [go_sem], by rw [h.cell (by simp)]; simp [go_sem]⟩, ⟨by rw [h.cell (by simp)]; simp [go_sem], by rw [h.cell (by simp)]; simp [go_sem]⟩, ⟨by rw [h.frozen (by simp)]; simp [go_sem], by rw [h.frozen (by simp)]; simp [go_sem]⟩, by have := h.size; simp at this; omega⟩
theorem unbox2 {w w' : World} {o1 o2 : Obj} {B : Nat} (h : Below B ((w.alloc o1).alloc o2) w') (hB : w.heap.size ≤ B) : Below w.heap.size w w' :=
  (((Below.refl _ _).alloc (Nat.le_refl _) _).alloc (by simp) _).trans (h.mono hB)

/-- What is written into the result's box turns nothing else. -/
theorem ret_block {W : World} {s b : Nat} (a c : Value) (hne : b ≠ s) : ((W.setCell ⟨s, 0, none⟩ a).setCell ⟨s, 1, none⟩ c).heap[b]? = W.heap[b]? :=
  (Below.heap_setCell _ _ _ _ (fun e => hne e)).trans (Below.heap_setCell _ _ _ _ (fun e => hne e))
theorem ret_below {B : Nat} {w W : World} {s : Nat} (h : Below B w W) (hB : B ≤ s) (a c : Value) : Below B w ((W.setCell ⟨s, 0, none⟩ a).setCell ⟨s, 1, none⟩ c) := (h.setCell hB a).setCell hB c

end Go.Proofs.Ytjabllghohapgah

/-
  Two lists of numbers held against each other, the document's way and the program's: of metrics.
-/
set_option linter.unusedVariables false
set_option linter.unusedSimpArgs false
namespace Go.Proofs.Ytjabllghohapgah
open Go.RowKit Go.Deep Go.Joins
attribute [local go_sem ↓] Go.wp_at_zero Go.wp_at_succ

/-- Two lists of numbers are the same. -/
def SameI (n m : Nat) (f g : Nat → Int) : Prop := n = m ∧ ∀ i, i < n → f i = g i
set_option maxHeartbeats 1000000 in
theorem equalI_any (ao ao' : Option Addr) (n m cap cap' : Nat) (f g : Nat → Int) (hn : n ≤ 1048576) (hm : m ≤ 1048576) (w : World) (hr : IRow w ao n f) (hr' : IRow w ao' m g) :
    Calls Try.prog 107 #[.slice ao n cap, .slice ao' m cap'] w fun e w' => BAns e (SameI n m f g) ∧ Below w.heap.size w w' := by
  by_cases hnm : n = m
  rotate_left
  · have HN : Hid (¬ SameI n m f g) := fun h => hnm h.1
    have hnm' : ¬ (n : Int) = (m : Int) := by omega
    go_enter Try.func107, Try.ntmps107
    go_wp2
    go_ret
    exact ⟨bans_no HN.out, Below.refl _ _⟩
  subst hnm
  go_enter Try.func107, Try.ntmps107
  go_wp2
  go_loopw [13] (fun x wr => ∃ k : Nat, k ≤ n ∧ x = .int .i64 k ∧ (∀ i, i < k → f i = g i) ∧ Below w.heap.size w wr) (fun x _ => n - (intOf x).toNat)
  case atStart => exact ⟨0, Nat.zero_le _, rfl, fun i hi => by omega, Below.refl _ _⟩
  case round =>
    obtain ⟨k, hk, rfl, hall, hbel⟩ := hrel
    have HA : Hid (∀ i, i < k → f i = g i) := hall
    clear hall
    by_cases hlt : k < n
    rotate_left
    · have hkn : k = n := by omega
      subst hkn
      go_wp2
      go_ret
      exact ⟨bans_yes ⟨rfl, HA.out⟩, hbel⟩
    obtain ⟨b, o, hao, c0⟩ := (hr.below hbel (Nat.le_refl _)) k hlt
    subst hao
    obtain ⟨b', o', hao', d0⟩ := (hr'.below hbel (Nat.le_refl _)) k hlt
    subst hao'
    have hk1 : (0 : Int) ≤ (k : Int) := by omega
    have hk2 : (k : Int) < (n : Int) := by omega
    by_cases he : f k = g k
    · have HE : Hid (f k = g k) := he
      rw [← he] at d0
      clear he
      go_wp2
      (try go_quiet (fail))
      go_wp2
      go_roundw
      case rel => exact ⟨k + 1, by omega, by go_num, fun i hi => by
        by_cases x : i = k
        · subst x; exact HE.out
        · exact HA.out i (by omega), by first | exact below_drewN hbel _ | exact hbel⟩
      case measure => simp [intOf]; omega
    · have HE : Hid (¬ SameI n n f g) := fun h => he (h.2 k hlt)
      go_wp2
      (try go_quiet (fail))
      go_wp2
      go_ret
      exact ⟨bans_no HE.out, by first | exact below_drewN hbel _ | exact hbel⟩

set_option maxHeartbeats 2000000 in
theorem sameMetric_any (ao : Option Addr) (n acap : Nat) (f : Nat → Int) (bo : Option Addr) (m bcap : Nat) (g : Nat → Int) (co : Option Addr) (u ccap : Nat) (f' : Nat → Int) (dO : Option Addr) (v dcap : Nat) (g' : Nat → Int) (hn : n ≤ 1048576) (hm : m ≤ 1048576) (hu : u ≤ 1048576) (hv : v ≤ 1048576) (w : World) (ha : IRow w ao n f) (hb : IRow w bo m g) (hc : IRow w co u f') (hd : IRow w dO v g') :
    Calls Try.prog 65 #[.agg #[.slice ao n acap, .slice bo m bcap], .agg #[.slice co u ccap, .slice dO v dcap]] w fun e w' => BAns e (SameI n u f f' ∧ SameI m v g g') ∧ Below w.heap.size w w' := by
  have hB0 : Below w.heap.size w ((w.alloc (.cells #[.slice ao n acap, .slice bo m bcap] 35)).alloc (.cells #[.slice co u ccap, .slice dO v dcap] 35)) := ((Below.refl _ w).alloc (Nat.le_refl _) _).alloc (by simp) _
  have q1 : ((w.alloc (.cells #[.slice ao n acap, .slice bo m bcap] 35)).alloc (.cells #[.slice co u ccap, .slice dO v dcap] 35)).cell? ⟨w.heap.size, 1, none⟩ = some (.slice bo m bcap) := by simp [go_sem]
  have q3 : ((w.alloc (.cells #[.slice ao n acap, .slice bo m bcap] 35)).alloc (.cells #[.slice co u ccap, .slice dO v dcap] 35)).cell? ⟨w.heap.size + 1, 1, none⟩ = some (.slice dO v dcap) := by simp [go_sem]
  go_enter Try.func65, Try.ntmps65
  go_wp2_with fail
  refine (equalI_any ao co n u acap ccap f f' hn hu _ (ha.below hB0 (Nat.le_refl _)) (hc.below hB0 (Nat.le_refl _))).mono ?_
  rintro e w1 ⟨⟨x, rfl, hx⟩, hb1⟩
  replace q1 := keep_cell hb1 (Nat.le_refl _) q1
  replace q3 := keep_cell hb1 (Nat.le_refl _) q3
  have hB1 := below_next hB0 (Nat.le_refl _) hb1
  clear hb1 hB0
  cases x
  · have HN : Hid (¬ (SameI n u f f' ∧ SameI m v g g')) := fun y => by have := hx.2 y.1; cases this
    clear hx
    go_wp2
    go_ret
    exact ⟨bans_no HN.out, hB1⟩
  have HY : Hid (SameI n u f f') := hx.1 rfl
  clear hx
  go_wp2_with fail
  refine (equalI_any bo dO m v bcap dcap g g' hm hv _ (hb.below hB1 (Nat.le_refl _)) (hd.below hB1 (Nat.le_refl _))).mono ?_
  rintro e w2 ⟨⟨x, rfl, hx⟩, hb2⟩
  have hB2 := below_next hB1 (Nat.le_refl _) hb2
  clear hb2 hB1
  go_wp2
  go_ret
  exact ⟨⟨x, rfl, hx.trans ⟨fun h => ⟨HY.out, h⟩, fun h => h.2⟩⟩, hB2⟩

end Go.Proofs.Ytjabllghohapgah

/-
  The program's guide: what a way is unpacked by.
-/
set_option linter.unusedVariables false
set_option linter.unusedSimpArgs false
namespace Go.Proofs.Ytjabllghohapgah
open Go.RowKit Go.Maps
attribute [local go_sem ↓] Go.wp_at_zero Go.wp_at_succ

/-- Where all that a guide has lies. -/
structure GOn (w : World) (ao : Option Addr) (n : Nat) (F T G : Nat → Int) (po : Option Addr) (k : Nat) (P : Nat → Int) (eo : Option Addr) (m : Nat) (L H : Nat → Int) (uo : Option Addr) (U : Nat → Int) (vo : Option Addr) (V : Nat → Int) (ma me : Nat) : Prop where
  rows : NRows w ao n F T G po k P eo m L H uo U vo V
  am : w.ownsMap Try.prog 130 (plainElem Try.prog 3) ma n (nums F T n)
  em : w.ownsMap Try.prog 71 (plainElem Try.prog 3) me m (enums L H m)
theorem GOn.next {w w' : World} {ao : Option Addr} {n : Nat} {F T G : Nat → Int} {po : Option Addr} {k : Nat} {P : Nat → Int} {eo : Option Addr} {m : Nat} {L H : Nat → Int} {uo : Option Addr} {U : Nat → Int} {vo : Option Addr} {V : Nat → Int} {ma me : Nat} (h : GOn w ao n F T G po k P eo m L H uo U vo V ma me) (hb : Below w.heap.size w w') : GOn w' ao n F T G po k P eo m L H uo U vo V ma me :=
  ⟨h.rows.below hb (Nat.le_refl _), ownsMap_below h.am hb, ownsMap_below h.em hb⟩

theorem weights_any (p : Int) (ao : Option Addr) (n cap : Nat) (po : Option Addr) (k pcap : Nat) (eo : Option Addr) (m ecap : Nat) (uo : Option Addr) (ucap : Nat) (vo : Option Addr) (vcap : Nat) (ma me : Nat) (up : Bool) (w : World) :
    Calls Try.prog 83 #[(.agg #[.int .i64 p, .slice ao n cap, .slice po k pcap, .slice eo m ecap, .slice uo m ucap, .slice vo m vcap, .map (some ma), .map (some me)]), .bool up] w fun e w' => e = .returned (if up = true then .slice uo m ucap else .slice vo m vcap) ∧ Below w.heap.size w w' := by
  cases up
  · go_enter Try.func83, Try.ntmps83
    go_wp2
    go_ret
    exact ⟨rfl, (Below.refl _ _).alloc (Nat.le_refl _) _⟩
  · go_enter Try.func83, Try.ntmps83
    go_wp2
    go_ret
    exact ⟨rfl, (Below.refl _ _).alloc (Nat.le_refl _) _⟩
set_option maxRecDepth 100000 in
theorem ranks_any (p : Int) (ao : Option Addr) (n cap : Nat) (po : Option Addr) (k pcap : Nat) (eo : Option Addr) (m ecap : Nat) (uo : Option Addr) (ucap : Nat) (vo : Option Addr) (vcap : Nat) (ma me : Nat) (L H : Nat → Int) (e : Nat) (up : Bool) (he : e < m) (hm : m ≤ 1048576) (w : World) (hr : ERow w eo m L H) :
    Calls Try.prog 84 #[(.agg #[.int .i64 p, .slice ao n cap, .slice po k pcap, .slice eo m ecap, .slice uo m ucap, .slice vo m vcap, .map (some ma), .map (some me)]), .agg #[.int .i64 (e : Int), .bool up]] w fun x w' => x = .returned (.tuple #[.int .i64 (if up = true then L e else H e), .int .i64 (if up = true then H e else L e)]) ∧ Below w.heap.size w w' := by
  have l1 : (0 : Int) ≤ (e : Int) := by omega
  have l2 : (e : Int) < (m : Int) := by omega
  cases up
  · have hb : Below w.heap.size w ((w.alloc (.cells #[.int .i64 p, .slice ao n cap, .slice po k pcap, .slice eo m ecap, .slice uo m ucap, .slice vo m vcap, .map (some ma), .map (some me)] 111)).alloc (.cells #[.int .i64 (e : Int), .bool false] 116)) := ((Below.refl _ _).alloc (Nat.le_refl _) _).alloc (by simp) _
    obtain ⟨b, o, rfl, c0, c1⟩ := (hr.below hb (Nat.le_refl _)) e he
    go_enter Try.func84, Try.ntmps84
    go_wp2
    go_quiet (fail)
    go_wp2
    exact bodyPost_ret (v := .tuple #[.int .i64 (H e), .int .i64 (L e)]) (by simp [results, Try.results84, go_sem]) rfl ⟨by simp, by first | exact below_drewN (hb.alloc hb.size _) _ | exact (hb.alloc hb.size _).drew | exact hb.alloc hb.size _⟩
  · have hb : Below w.heap.size w ((w.alloc (.cells #[.int .i64 p, .slice ao n cap, .slice po k pcap, .slice eo m ecap, .slice uo m ucap, .slice vo m vcap, .map (some ma), .map (some me)] 111)).alloc (.cells #[.int .i64 (e : Int), .bool true] 116)) := ((Below.refl _ _).alloc (Nat.le_refl _) _).alloc (by simp) _
    obtain ⟨b, o, rfl, c0, c1⟩ := (hr.below hb (Nat.le_refl _)) e he
    go_enter Try.func84, Try.ntmps84
    go_wp2
    go_quiet (fail)
    go_wp2
    exact bodyPost_ret (v := .tuple #[.int .i64 (L e), .int .i64 (H e)]) (by simp [results, Try.results84, go_sem]) rfl ⟨by simp, by first | exact below_drewN (hb.alloc hb.size _) _ | exact (hb.alloc hb.size _).drew | exact hb.alloc hb.size _⟩

end Go.Proofs.Ytjabllghohapgah
