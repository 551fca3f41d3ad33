/-
  Helpers, merged: FillP, Edge, EList, Vh, Cells, Grow, Ans, Last, OrdSpec.
-/
import Derived.Test.YtokaechbmnbbiabGreatPack1
import Derived.Deep.AppendLies
import Derived.Test.YtokaechbmnbbiabGreatRows
import Derived.WalkKit
import Derived.Deep.QuietTactic
import Derived.BigQuiet
import Derived.BigRegion
/-
  The fill, the plain part: the squares while places are taken away in an order, the edges in their order, the edges as they come, and that a sorted list of the ones is the other.
-/
set_option linter.unusedVariables false
set_option linter.unusedSimpArgs false
namespace Go.Proofs.YtokaechbmnbbiabGreat

theorem sn_mem {P : Nat → Int} : ∀ k q, sn P k q = true ↔ ∃ j, j < k ∧ P j = (q : Int)
  | 0, q => by simp [sn]
  | k + 1, q => by
    rw [sn_succ, Bool.or_eq_true, sn_mem k q, beq_iff_eq]
    constructor
    · rintro (h | ⟨j, h1, h2⟩)
      · exact ⟨k, by omega, h⟩
      · exact ⟨j, by omega, h2⟩
    · rintro ⟨j, h1, h2⟩
      by_cases e : j = k
      · subst e; exact Or.inl h2
      · exact Or.inr ⟨j, by omega, h2⟩
theorem each_in {m : Nat} {P : Nat → Int} : ∀ n, eachB m P n = true → ∀ k, k < n → (0 ≤ P k ∧ P k < (m : Int)) ∧ sn P k (P k).toNat = false
  | 0, _, k, hk => by omega
  | n + 1, h, k, hk => by
    simp only [eachB, Bool.and_eq_true] at h
    by_cases e : k = n
    · subst e
      have h1 : 0 ≤ P k ∧ P k ≤ (m : Int) - 1 := by simpa [inB] using h.2.1
      exact ⟨by omega, by simpa using h.2.2⟩
    · exact each_in n h.1 k (by omega)
theorem each_inj {m n : Nat} {P : Nat → Int} (h : eachB m P n = true) {i j : Nat} (hi : i < n) (hj : j < n) (e : P i = P j) : i = j := by
  have key : ∀ a b, a < b → b < n → P a ≠ P b := fun a b hab hb e => by
    have h1 := each_in n h b hb
    have : sn P b (P b).toNat = true := (sn_mem b _).2 ⟨a, hab, by omega⟩
    rw [h1.2] at this; cases this
  rcases Nat.lt_trichotomy i j with hl | hl | hl
  · exact absurd e (key i j hl hj)
  · exact hl
  · exact absurd e.symm (key j i hl hi)
theorem rk_is {m : Nat} {P : Nat → Int} (z : Int) : ∀ n, eachB m P n = true → ∀ h, h < n → rk P z n (P h).toNat = (h : Int)
  | 0, _, h, hh => by omega
  | n + 1, he, h, hh => by
    have h0 := each_in (n + 1) he h hh
    show (if P n = (((P h).toNat : Nat) : Int) then (n : Int) else rk P z n (P h).toNat) = (h : Int)
    by_cases e : h = n
    · subst e; rw [if_pos (by omega)]
    · rw [if_neg (fun x => e (each_inj he hh (Nat.lt_succ_self n) (by omega)))]
      simp only [eachB, Bool.and_eq_true] at he
      exact rk_is z n he.1 h (by omega)
theorem rk_of {n : Nat} {P : Nat → Int} (h : eachB n P n = true) (z : Int) {q : Nat} (hq : q < n) : ∃ k, k < n ∧ P k = (q : Int) ∧ rk P z n q = (k : Int) := by
  obtain ⟨k, hk, e⟩ := (sn_mem n q).1 (each_all h q hq)
  refine ⟨k, hk, e, ?_⟩
  have := rk_is z n h k hk
  rw [e] at this
  simpa using this

def sqO (B : Nat → Nat → Bool) (P : Nat → Int) : Nat → Nat → Nat → Bool
  | 0 => B
  | k + 1 => tk (sqO B P k) (P k).toNat
theorem sqO_fair {B : Nat → Nat → Bool} (h : Fair B) (P : Nat → Int) : ∀ k, Fair (sqO B P k)
  | 0 => h
  | k + 1 => fair_tk (sqO_fair h P k) _
theorem sqO_within {p : Nat} {B : Nat → Nat → Bool} (h : Within p B) (P : Nat → Int) : ∀ k, Within p (sqO B P k)
  | 0 => h
  | k + 1 => within_tk (sqO_within h P k) _
theorem sqO_gone {B : Nat → Nat → Bool} (hB : Fair B) (P : Nat → Int) : ∀ k j, j < k → ∀ y, sqO B P k (P j).toNat y = false
  | 0, j, hj, y => by omega
  | k + 1, j, hj, y => by
    show tk (sqO B P k) (P k).toNat (P j).toNat y = false
    unfold tk
    by_cases e : j = k
    · subst e; rw [if_pos (Or.inl rfl)]
    · have h1 := sqO_gone hB P k j (by omega)
      split
      · rfl
      · rw [h1 y, (sqO_fair hB P k).1, h1]; rfl

abbrev Pr : Type := Int × Int
def lt2 (a b : Pr) : Prop := upB a.1 a.2 b.1 b.2 = true
theorem lt2_iff (a b : Pr) : lt2 a b ↔ a.1 < b.1 ∨ (a.1 = b.1 ∧ a.2 < b.2) := by
  unfold lt2 upB; simp
theorem lt2_irr (a : Pr) : ¬ lt2 a a := by rw [lt2_iff]; omega
theorem lt2_trans {a b c : Pr} (h1 : lt2 a b) (h2 : lt2 b c) : lt2 a c := by rw [lt2_iff] at *; omega
theorem le2_trans {a b c : Pr} (h1 : ¬ lt2 b a) (h2 : ¬ lt2 c b) : ¬ lt2 c a := by rw [lt2_iff] at *; omega
def Srt (l : List Pr) : Prop := l.Pairwise (fun a b => ¬ lt2 b a)
theorem srt_unique : ∀ (l1 l2 : List Pr), l1.Pairwise lt2 → Srt l2 → l2.Nodup → (∀ x, x ∈ l1 ↔ x ∈ l2) → l1 = l2
  | [], l2, _, _, _, h => by
    cases l2 with
    | nil => rfl
    | cons b bs => exact absurd ((h b).2 (by simp)) (by simp)
  | a :: xs, [], _, _, _, h => absurd ((h a).1 (by simp)) (by simp)
  | a :: xs, b :: bs, h1, h2, h3, h => by
    rw [List.pairwise_cons] at h1
    unfold Srt at h2
    rw [List.pairwise_cons] at h2
    rw [List.nodup_cons] at h3
    have hab : a = b := by
      by_cases e : a = b
      · exact e
      · have x1 : a ∈ bs := by
          have := (h a).1 (by simp)
          simp at this
          exact this.resolve_left e
        have x2 : b ∈ xs := by
          have := (h b).2 (by simp)
          simp at this
          exact this.resolve_left (fun x => e x.symm)
        exact absurd (h1.1 b x2) (h2.1 a x1)
    subst hab
    rw [srt_unique xs bs h1.2 h2.2 h3.2 (fun x => ?_)]
    constructor
    · intro hx
      have := (h x).1 (by simp [hx])
      simp at this
      rcases this with e | e
      · subst e; exact absurd (h1.1 x hx) (lt2_irr x)
      · exact e
    · intro hx
      have := (h x).2 (by simp [hx])
      simp at this
      rcases this with e | e
      · subst e; exact absurd hx h3.1
      · exact e

section
variable (B : Nat → Nat → Bool) (P : Nat → Int) (p : Nat)
def rowS (r : Nat) : Nat → List Pr
  | 0 => []
  | h + 1 => rowS r h ++ (if r < h ∧ sqO B P r (P r).toNat (P h).toNat = true then [((r : Int), (h : Int))] else [])
def allS : Nat → List Pr
  | 0 => []
  | r + 1 => allS r ++ rowS B P r p
def rowU (r k : Nat) : List Pr := (visF (sqO B P r (P r).toNat) k).map (fun q => ((r : Int), rk P (-1) p q))
def allU : Nat → List Pr
  | 0 => []
  | r + 1 => allU r ++ rowU B P p r p
end
variable {B : Nat → Nat → Bool} {P : Nat → Int} {p : Nat}
theorem mem_rowS (r : Nat) (x : Pr) : ∀ k, x ∈ rowS B P r k ↔ ∃ h, h < k ∧ r < h ∧ sqO B P r (P r).toNat (P h).toNat = true ∧ x = ((r : Int), (h : Int))
  | 0 => by simp [rowS]
  | k + 1 => by
    show x ∈ rowS B P r k ++ _ ↔ _
    rw [List.mem_append, mem_rowS r x k]
    constructor
    · rintro (⟨h, h1, h2⟩ | h)
      · exact ⟨h, by omega, h2⟩
      · split at h
        · next c =>
          simp at h
          exact ⟨k, by omega, c.1, c.2, h⟩
        · simp at h
    · rintro ⟨h, h1, h2, h3, h4⟩
      by_cases e : h = k
      · subst e
        right
        rw [if_pos ⟨h2, h3⟩, h4]; simp
      · exact Or.inl ⟨h, by omega, h2, h3, h4⟩
theorem mem_allS (x : Pr) : ∀ R, x ∈ allS B P p R ↔ ∃ r h, r < R ∧ h < p ∧ r < h ∧ sqO B P r (P r).toNat (P h).toNat = true ∧ x = ((r : Int), (h : Int))
  | 0 => by simp [allS]
  | R + 1 => by
    show x ∈ allS B P p R ++ _ ↔ _
    rw [List.mem_append, mem_allS x R, mem_rowS]
    constructor
    · rintro (⟨r, h, h1, h2⟩ | ⟨h, h1, h2⟩)
      · exact ⟨r, h, by omega, h2⟩
      · exact ⟨R, h, by omega, h1, h2⟩
    · rintro ⟨r, h, h1, h2⟩
      by_cases e : r = R
      · subst e; exact Or.inr ⟨h, h2⟩
      · exact Or.inl ⟨r, h, by omega, h2⟩
theorem mem_allU (x : Pr) : ∀ R, x ∈ allU B P p R ↔ ∃ r q, r < R ∧ q < p ∧ sqO B P r (P r).toNat q = true ∧ x = ((r : Int), rk P (-1) p q)
  | 0 => by simp [allU]
  | R + 1 => by
    show x ∈ allU B P p R ++ rowU B P p R p ↔ _
    rw [List.mem_append, mem_allU x R]
    unfold rowU
    rw [List.mem_map]
    constructor
    · rintro (⟨r, q, h1, h2⟩ | ⟨q, h1, h2⟩)
      · exact ⟨r, q, by omega, h2⟩
      · rw [visF_mem] at h1
        exact ⟨R, q, by omega, h1.1, h1.2, h2.symm⟩
    · rintro ⟨r, q, h1, h2, h3, h4⟩
      by_cases e : r = R
      · subst e; exact Or.inr ⟨q, (visF_mem _ _ _).2 ⟨h2, h3⟩, h4.symm⟩
      · exact Or.inl ⟨r, q, by omega, h2, h3, h4⟩
theorem srt_rowS (r : Nat) : ∀ k, (rowS B P r k).Pairwise lt2
  | 0 => List.Pairwise.nil
  | k + 1 => by
    show (rowS B P r k ++ _).Pairwise lt2
    rw [List.pairwise_append]
    refine ⟨srt_rowS r k, ?_, fun x hx y hy => ?_⟩
    · split <;> simp
    · obtain ⟨h, h1, h2, h3, rfl⟩ := (mem_rowS r x k).1 hx
      split at hy
      · simp at hy
        subst hy
        rw [lt2_iff]; simp; omega
      · simp at hy
theorem srt_allS : ∀ R, (allS B P p R).Pairwise lt2
  | 0 => List.Pairwise.nil
  | R + 1 => by
    show (allS B P p R ++ rowS B P R p).Pairwise lt2
    rw [List.pairwise_append]
    refine ⟨srt_allS R, srt_rowS R p, fun x hx y hy => ?_⟩
    obtain ⟨r, h, h1, _, _, _, rfl⟩ := (mem_allS x R).1 hx
    obtain ⟨h', _, _, _, rfl⟩ := (mem_rowS R y p).1 hy
    rw [lt2_iff]; simp; omega
theorem visF_nodup (f : Nat → Bool) : ∀ k, (visF f k).Nodup
  | 0 => by simp [visF, vis]
  | k + 1 => by
    show (if f k then visF f k ++ [k] else visF f k).Nodup
    split
    · rw [List.nodup_append]
      refine ⟨visF_nodup f k, by simp, fun a ha b hb => ?_⟩
      simp at hb
      have := (visF_mem f k a).1 ha
      omega
    · exact visF_nodup f k
theorem rk_inj (he : eachB p P p = true) {a b : Nat} (ha : a < p) (hb : b < p) (e : rk P (-1) p a = rk P (-1) p b) : a = b := by
  obtain ⟨k, _, h1, h2⟩ := rk_of he (-1) ha
  obtain ⟨k', _, h3, h4⟩ := rk_of he (-1) hb
  have : k = k' := by omega
  subst this
  omega
theorem nodup_allU (he : eachB p P p = true) : ∀ R, (allU B P p R).Nodup
  | 0 => by simp [allU]
  | R + 1 => by
    show (allU B P p R ++ rowU B P p R p).Nodup
    rw [List.nodup_append]
    refine ⟨nodup_allU he R, ?_, fun a ha b hb e => ?_⟩
    · unfold rowU
      rw [List.nodup_iff_pairwise_ne, List.pairwise_map]
      refine (List.nodup_iff_pairwise_ne.1 (visF_nodup (sqO B P R (P R).toNat) p)).imp_of_mem ?_
      intro a b ha hb hab e
      simp at e
      exact hab (rk_inj he ((visF_mem _ _ _).1 ha).1 ((visF_mem _ _ _).1 hb).1 e)
    · obtain ⟨r, q, h1, _, _, h2⟩ := (mem_allU a R).1 ha
      unfold rowU at hb
      rw [List.mem_map] at hb
      obtain ⟨q', _, h3⟩ := hb
      subst e
      rw [h2] at h3
      simp at h3
      omega
theorem mem_same (hB : Fair B) (he : eachB p P p = true) (x : Pr) : x ∈ allS B P p p ↔ x ∈ allU B P p p := by
  rw [mem_allS, mem_allU]
  constructor
  · rintro ⟨r, h, h1, h2, h3, h4, rfl⟩
    have := (each_in p he h h2).1
    exact ⟨r, (P h).toNat, h1, by omega, h4, by rw [rk_is (-1) p he h h2]⟩
  · rintro ⟨r, q, h1, h2, h3, rfl⟩
    obtain ⟨k, hk, e1, e2⟩ := rk_of he (-1) h2
    have hq : (P k).toNat = q := by omega
    refine ⟨r, k, h1, hk, ?_, by rw [hq]; exact h3, by rw [e2]⟩
    rcases Nat.lt_trichotomy r k with hl | hl | hl
    · exact hl
    · subst hl
      rw [hq, (sqO_fair hB P r).2] at h3; cases h3
    · rw [(sqO_fair hB P r).1, ← hq, sqO_gone hB P r k hl] at h3; cases h3
theorem fill_same (hB : Fair B) (he : eachB p P p = true) {l : List Pr} (hp : l.Perm (allU B P p p)) (hs : Srt l) : l = allS B P p p :=
  (srt_unique _ l (srt_allS p) hs (hp.symm.nodup (nodup_allU he p)) (fun x => by rw [mem_same hB he, hp.mem_iff])).symm

end Go.Proofs.YtokaechbmnbbiabGreat

/-
  Lists of edges: read behind an address, of the call's own, written. Two numbers an edge.
-/
set_option linter.unusedVariables false
set_option linter.unusedSimpArgs false
namespace Go.Proofs.YtokaechbmnbbiabGreat
open Go.RowKit

def er (L H : Nat → Int) (j : Nat) : Int := if j % 2 = 0 then L (j / 2) else H (j / 2)
theorem er0 (L H : Nat → Int) (k : Nat) : er L H (k * 2) = L k := by
  unfold er; rw [if_pos (by omega)]; congr 1; omega
theorem er1 (L H : Nat → Int) (k : Nat) : er L H (k * 2 + 1) = H k := by
  unfold er; rw [if_neg (by omega)]; congr 1; omega

def ERow (w : World) (ao : Option Addr) (n : Nat) (L H : Nat → Int) : Prop := ∀ k, k < n → ∃ b o, ao = some ⟨b, o, none⟩ ∧
  w.cell? ⟨b, o + k * 2, none⟩ = some (.int .i64 (L k)) ∧ w.cell? ⟨b, o + k * 2 + 1, none⟩ = some (.int .i64 (H k))
theorem ERow.below {w w' : World} {B : Nat} {ao : Option Addr} {n : Nat} {L H : Nat → Int} (h : ERow w ao n L H) (hb : Below B w w') (hB : w.heap.size ≤ B) : ERow w' ao n L H := fun k hk => by
  obtain ⟨b, o, e, c0, c1⟩ := h k hk
  have hlt := lt_of_cell c0
  exact ⟨b, o, e, by rw [hb.cell (by simp; omega)]; exact c0, by rw [hb.cell (by simp; omega)]; exact c1⟩
theorem ERow.alloc {w : World} {ao : Option Addr} {n : Nat} {L H : Nat → Int} (h : ERow w ao n L H) (o : Obj) : ERow (w.alloc o) ao n L H := h.below ((Below.refl w.heap.size w).alloc (Nat.le_refl _) o) (Nat.le_refl _)
theorem ERow.congr {w : World} {ao : Option Addr} {n : Nat} {L H L' H' : Nat → Int} (h : ERow w ao n L H) (e1 : ∀ k, k < n → L k = L' k) (e2 : ∀ k, k < n → H k = H' k) : ERow w ao n L' H' := fun k hk => by
  obtain ⟨b, o, h1, h2, h3⟩ := h k hk
  exact ⟨b, o, h1, by rw [h2, e1 k hk], by rw [h3, e2 k hk]⟩
theorem ERow.less {w : World} {ao : Option Addr} {n m : Nat} {L H : Nat → Int} (h : ERow w ao n L H) (hm : m ≤ n) : ERow w ao m L H := fun k hk => h k (by omega)

def EHas (w : World) (b n : Nat) (f : Nat → Int) : Prop := ∃ cur : Array Value, w.heap[b]? = some (.cells cur 62 (0, 0)) ∧ n * 2 ≤ cur.size ∧ ∀ j, j < n * 2 → cur[j]? = some (.int .i64 (f j))
theorem EHas.cell {w : World} {b n : Nat} {f : Nat → Int} (h : EHas w b n f) {j : Nat} (hj : j < n * 2) : w.cell? ⟨b, j, none⟩ = some (.int .i64 (f j)) := by
  obtain ⟨c, hb, _, hc⟩ := h
  simp [World.cell?, hb, hc j hj]
theorem EHas.frozen {w : World} {b n : Nat} {f : Nat → Int} (h : EHas w b n f) (j : Nat) : w.frozen? ⟨b, j, none⟩ = false := by
  obtain ⟨c, hb, _, _⟩ := h
  simp [World.frozen?, hb]
theorem EHas.lt {w : World} {b n : Nat} {f : Nat → Int} (h : EHas w b n f) : b < w.heap.size := by
  obtain ⟨c, hb, _, _⟩ := h
  exact (Array.getElem?_eq_some_iff.1 hb).1
theorem EHas.of_block {w w' : World} {b n : Nat} {f : Nat → Int} (h : EHas w b n f) (e : w'.heap[b]? = w.heap[b]?) : EHas w' b n f := by
  obtain ⟨c, hb, hn, hc⟩ := h
  exact ⟨c, e.trans hb, hn, hc⟩
theorem EHas.congr {w : World} {b n : Nat} {f g : Nat → Int} (h : EHas w b n f) (e : ∀ j, j < n * 2 → f j = g j) : EHas w b n g := by
  obtain ⟨c, hb, hn, hc⟩ := h
  exact ⟨c, hb, hn, fun j hj => by rw [hc j hj, e j hj]⟩
theorem EHas.set {w : World} {b n : Nat} {f : Nat → Int} (h : EHas w b n f) (i : Nat) (v : Int) : EHas (w.setCell ⟨b, i, none⟩ (.int .i64 v)) b n (fun j => if j = i then v else f j) := by
  obtain ⟨c, hb, hn, hc⟩ := h
  refine ⟨c.setIfInBounds i (.int .i64 v), ?_, by simpa using hn, fun j hj => ?_⟩
  · simp [World.setCell, Array.getElem?_modify, hb]
  · rw [Array.getElem?_setIfInBounds]
    by_cases e : j = i
    · subst e
      simp; omega
    · rw [if_neg (fun h => e h.symm)]
      show c[j]? = some (.int .i64 (if j = i then v else f j))
      rw [if_neg e]
      exact hc j hj
theorem EHas.row {w : World} {b n : Nat} {L H : Nat → Int} (h : EHas w b n (er L H)) : ERow w (some ⟨b, 0, none⟩) n L H := fun k hk => by
  refine ⟨b, 0, rfl, ?_, ?_⟩
  · have := h.cell (j := k * 2) (by omega); rw [er0] at this; simpa using this
  · have := h.cell (j := k * 2 + 1) (by omega); rw [er1] at this; simpa using this
theorem EHas.below {w w' : World} {b n B : Nat} {f : Nat → Int} (h : EHas w b n f) (hb : Below B w w') (hB : b < B) : EHas w' b n f := h.of_block (hb.block b hB)
theorem EHas.next {w w' : World} {b n : Nat} {f : Nat → Int} (h : EHas w b n f) (hb : Below w.heap.size w w') : EHas w' b n f := h.below hb h.lt
theorem EHas.grown {w w' : World} {b n : Nat} {f : Nat → Int} {row : Option Nat} (h : EHas w b n f) (hg : w.grownBy w' row) (hne : some b ≠ row) : EHas w' b n f := h.of_block (hg.block b h.lt hne)
theorem EHas.of_row {w : World} {b n : Nat} {f : Nat → Int} (h : w.rowIs b 62 (n * 2) (fun j => .int .i64 (f j))) : EHas w b n f := by
  obtain ⟨c, hb, hn, hc⟩ := h
  exact ⟨c, hb, by omega, hc⟩

theorem Tryz.infoEdge : (Tryz.prog.info? 62).map (fun i => (i.zero, i.size, i.bytes)) = some (some (.agg #[.int .i64 0, .int .i64 0]), 2, 16) := by kernel_rfl

def EAns (w w' : World) (e : Ending) (m : Nat) (L H : Nat → Int) : Prop := ∃ ao cap, e = .returned (.slice ao m cap) ∧ (0 < m → ∃ g, ao = some ⟨g, 0, none⟩ ∧ w.heap.size ≤ g ∧ EHas w' g m (er L H)) ∧ Below w.heap.size w w'

end Go.Proofs.YtokaechbmnbbiabGreat

/-
  Edges of the call's own as a list of pairs: read, grown by one, two neighbours exchanged.
-/
set_option linter.unusedVariables false
set_option linter.unusedSimpArgs false
namespace Go.Proofs.YtokaechbmnbbiabGreat
open Go.RowKit

def Lf (l : List (Int × Int)) (k : Nat) : Int := (l.getD k (0, 0)).1
def Hf (l : List (Int × Int)) (k : Nat) : Int := (l.getD k (0, 0)).2
def ecells (l : List (Int × Int)) : List Value := l.flatMap fun e => [.int .i64 e.1, .int .i64 e.2]
theorem ecells_at : ∀ (l : List (Int × Int)) (j : Nat), j < l.length * 2 → (ecells l)[j]? = some (.int .i64 (er (Lf l) (Hf l) j))
  | [], j, h => by simp at h
  | e :: l, 0, h => by simp [ecells, er, Lf]
  | e :: l, 1, h => by simp [ecells, er, Hf]
  | e :: l, j + 2, h => by
    have := ecells_at l j (by simp at h; omega)
    have h1 : (ecells (e :: l))[j + 2]? = (ecells l)[j]? := by simp [ecells]
    rw [h1, this]
    have hd : (j + 2) / 2 = j / 2 + 1 := by omega
    have hm : (j + 2) % 2 = j % 2 := by omega
    unfold er Lf Hf
    rw [hd, hm]
    simp
theorem ecells_snoc (l : List (Int × Int)) (a b : Int) : ecells l ++ [.int .i64 a, .int .i64 b] = ecells (l ++ [(a, b)]) := by simp [ecells]

def EOwn (w : World) (base g cap : Nat) (l : List (Int × Int)) : Prop := w.ownsRow base 62 2 (.slice (some ⟨g, 0, none⟩) l.length cap) l.length (ecells l)
theorem EOwn.has {w : World} {base g cap : Nat} {l : List (Int × Int)} (h : EOwn w base g cap l) : EHas w g l.length (er (Lf l) (Hf l)) := by
  obtain ⟨hl, h0 | ⟨g', cap', cur, hv, hb, hh, h1, h2, h3, h4⟩⟩ := h
  · simp at h0
  · simp at hv
    obtain ⟨rfl, rfl⟩ := hv
    refine ⟨cur, hh, by omega, fun j hj => ?_⟩
    have : (cur.toList.take (l.length * 2))[j]? = (ecells l)[j]? := by rw [h4]
    rw [List.getElem?_take_of_lt (by omega), ecells_at l j hj] at this
    simpa using this
theorem EOwn.from {w : World} {base base' g cap : Nat} {l : List (Int × Int)} (h : EOwn w base g cap l) (hb : base' ≤ base) : EOwn w base' g cap l := by
  refine ⟨h.1, ?_⟩
  rcases h.2 with hn | ⟨g', cap', cur, hv, hb', rest⟩
  · exact .inl hn
  · exact .inr ⟨g', cap', cur, hv, Nat.le_trans hb hb', rest⟩
theorem EOwn.base {w : World} {base g cap : Nat} {l : List (Int × Int)} (h : EOwn w base g cap l) : base ≤ g := (World.ownsRow.lt h g rfl).1
theorem EOwn.lt {w : World} {base g cap : Nat} {l : List (Int × Int)} (h : EOwn w base g cap l) : g < w.heap.size := (World.ownsRow.lt h g rfl).2
theorem EOwn.of_block {w w' : World} {base g cap : Nat} {l : List (Int × Int)} (h : EOwn w base g cap l) (e : w'.heap[g]? = w.heap[g]?) : EOwn w' base g cap l := by
  refine ⟨h.1, ?_⟩
  rcases h.2 with hn | ⟨g', cap', cur, hv, hb', hgg, rest⟩
  · exact .inl hn
  · simp at hv
    obtain ⟨rfl, rfl⟩ := hv
    exact .inr ⟨g, cap, cur, rfl, hb', e.trans hgg, rest⟩
theorem EOwn.below {w w' : World} {base g cap B : Nat} {l : List (Int × Int)} (h : EOwn w base g cap l) (hb : Below B w w') (hB : g < B) : EOwn w' base g cap l := h.of_block (hb.block g hB)
theorem EOwn.next {w w' : World} {base g cap : Nat} {l : List (Int × Int)} (h : EOwn w base g cap l) (hb : Below w.heap.size w w') : EOwn w' base g cap l := h.below hb h.lt
theorem EOwn.grown {w w' : World} {base g cap : Nat} {l : List (Int × Int)} {row : Option Nat} (h : EOwn w base g cap l) (hg : w.grownBy w' row) (hne : some g ≠ row) : EOwn w' base g cap l := h.of_block (hg.block g h.lt hne)
theorem EOwn.room {w : World} {base g cap : Nat} {l : List (Int × Int)} (h : EOwn w base g cap l) : l.length ≤ cap := by
  obtain ⟨hl, h0 | ⟨g', cap', cur, hv, hb, hh, h1, h2, h3, h4⟩⟩ := h
  · simp at h0
  · simp at hv
    omega
theorem EOwn.empty (w : World) {base : Nat} (hb : base ≤ w.heap.size) : EOwn (w.alloc (.cells #[] 62)) base w.heap.size 0 [] := by
  have := World.ownsRow_lit (base := base) (e := 62) (size := 2) w #[] 0 hb (by simp) (by simp)
  simpa [EOwn, ecells] using this

theorem news_edge {w : World} {B : Nat} {x y : Int} (h0 : w.cell? ⟨B, 0, none⟩ = some (.int .i64 x)) (h1 : w.cell? ⟨B, 1, none⟩ = some (.int .i64 y)) : ∀ j u, [Value.int .i64 x, .int .i64 y][j]? = some u → w.cell? ((⟨B, 0, none⟩ : Addr).add j) = some u :=
  fun j u hu => by
    match j, hu with
    | 0, hu => simp at hu; subst hu; exact h0
    | 1, hu => simp at hu; subst hu; exact h1
    | j + 2, hu => simp at hu
theorem wpList_append_edge {w : World} {ops : Array Oper} {rest : List Oper} {o : Oper} {a : Act} {Q : Exit → Act → World → Prop} (hgd : o.guard = none) (s x : Operand)
    (ho : o.op = .call { callee := .builtin .append, args := #[s, x], argTypes := #[28, 28] }) (base g cap : Nat) (l : List (Int × Int)) (hs : a.eval s = .slice (some ⟨g, 0, none⟩) l.length cap)
    (hown : EOwn w base g cap l) (B c : Nat) (v u : Int) (hx : a.eval x = .slice (some ⟨B, 0, none⟩) 1 c) (h0 : w.cell? ⟨B, 0, none⟩ = some (.int .i64 v)) (h1 : w.cell? ⟨B, 1, none⟩ = some (.int .i64 u)) (hn : l.length ≤ 1000000) (hbase : base ≤ w.heap.size)
    (h : ∀ g' cap' w', EOwn w' base g' cap' (l ++ [(v, u)]) → w.grownBy w' (some g) → (g' = g ∨ g' = w.heap.size) → wpList Tryz.prog ops Q rest (a.put o.dst (.slice (some ⟨g', 0, none⟩) (l.length + 1) cap')) w') : wpList Tryz.prog ops Q (o :: rest) a w := by
  obtain ⟨i, hi, hz0, hz1, hz2⟩ := info_parts Tryz.infoEdge
  refine wpList_append_lies w hgd s x 28 ho base 62 i _ 2 16 Tryz.underlying28 hi hz0 hz1 hz2 rfl (by omega) _ l.length (ecells l) hs hown ⟨B, 0, none⟩ 1 c [.int .i64 v, .int .i64 u] hx rfl (news_edge h0 h1) ?_ (by omega) (by unfold maxLen; omega) (by omega) hbase w.heap.size rfl ?_
  · intro u hu
    simp at hu
    rcases hu with rfl | rfl <;> rfl
  · intro g' cap' w' hown' hgrow hat hlt
    refine h g' cap' w' ?_ hgrow ?_
    · rw [ecells_snoc] at hown'
      unfold EOwn
      rw [List.length_append]
      exact hown'
    · rcases hat with e | e
      · simp [Value.ownBlock] at e; exact Or.inl e.symm
      · exact Or.inr e

theorem step_append_edge {w : World} {ops : Array Oper} {o : Oper} {a : Act} {K : Act → World → Prop} {Q : Exit → Act → World → Prop} {E : Prop} (hgd : o.guard = none) (s x : Operand)
    (ho : o.op = .call { callee := .builtin .append, args := #[s, x], argTypes := #[28, 28] }) (base g cap : Nat) (l : List (Int × Int)) (hs : a.eval s = .slice (some ⟨g, 0, none⟩) l.length cap)
    (hown : EOwn w base g cap l) (B c : Nat) (v u : Int) (hx : a.eval x = .slice (some ⟨B, 0, none⟩) 1 c) (h0 : w.cell? ⟨B, 0, none⟩ = some (.int .i64 v)) (h1 : w.cell? ⟨B, 1, none⟩ = some (.int .i64 u)) (hn : l.length ≤ 1000000) (hbase : base ≤ w.heap.size)
    (h : ∀ g' cap' w', EOwn w' base g' cap' (l ++ [(v, u)]) → w.grownBy w' (some g) → (g' = g ∨ g' = w.heap.size) → K (a.put o.dst (.slice (some ⟨g', 0, none⟩) (l.length + 1) cap')) w') :
    if Region.wanted o (yielded ops a.tmps) = true then Oper.wp Tryz.prog o a w K Q else E := by
  have hw : Region.wanted o (yielded ops a.tmps) = true := by simp [Region.wanted, hgd]
  rw [if_pos hw]
  obtain ⟨i, hi, hz0, hz1, hz2⟩ := info_parts Tryz.infoEdge
  refine wp_append_lies w s x 28 ho base 62 i _ 2 16 Tryz.underlying28 hi hz0 hz1 hz2 rfl (by omega) _ l.length (ecells l) hs hown ⟨B, 0, none⟩ 1 c [.int .i64 v, .int .i64 u] hx rfl (news_edge h0 h1) ?_ (by omega) (by unfold maxLen; omega) (by omega) hbase w.heap.size rfl ?_
  · intro u hu
    simp at hu
    rcases hu with rfl | rfl <;> rfl
  · intro g' cap' w' hown' hgrow hat hlt
    refine h g' cap' w' ?_ hgrow ?_
    · rw [ecells_snoc] at hown'
      unfold EOwn
      rw [List.length_append]
      exact hown'
    · rcases hat with e | e
      · simp [Value.ownBlock] at e; exact Or.inl e.symm
      · exact Or.inr e

def ELies (w : World) (g : Nat) (l : List (Int × Int)) : Prop := EHas w g l.length (er (Lf l) (Hf l))
theorem ELies.at {w : World} {g : Nat} {a b : List (Int × Int)} {x : Int × Int} (h : ELies w g (a ++ x :: b)) : w.cell? ⟨g, a.length * 2, none⟩ = some (.int .i64 x.1) ∧ w.cell? ⟨g, a.length * 2 + 1, none⟩ = some (.int .i64 x.2) := by
  have h0 := EHas.cell h (j := a.length * 2) (by simp)
  have h1 := EHas.cell h (j := a.length * 2 + 1) (by simp; omega)
  rw [er0] at h0
  rw [er1] at h1
  have e : (a ++ x :: b).getD a.length (0, 0) = x := by simp [List.getD]
  unfold Lf at h0
  unfold Hf at h1
  rw [e] at h0 h1
  exact ⟨h0, h1⟩
theorem getD_swap (a b : List (Int × Int)) (x y : Int × Int) (k : Nat) : (a ++ x :: y :: b).getD k (0, 0) = if k = a.length + 1 then y else if k = a.length then x else (a ++ y :: x :: b).getD k (0, 0) := by
  by_cases h1 : k = a.length + 1
  · subst h1; rw [if_pos rfl]; simp [List.getD, List.getElem?_append_right]
  · rw [if_neg h1]
    by_cases h2 : k = a.length
    · subst h2; rw [if_pos rfl]; simp [List.getD]
    · rw [if_neg h2]
      by_cases h3 : k < a.length
      · simp [List.getD, List.getElem?_append_left h3]
      · obtain ⟨m, rfl⟩ : ∃ m, k = a.length + (m + 2) := ⟨k - a.length - 2, by omega⟩
        simp [List.getD, List.getElem?_append_right]
theorem er_swap (a b : List (Int × Int)) (x y : Int × Int) (j : Nat) :
    (if j = a.length * 2 + 1 then x.2 else if j = a.length * 2 then x.1 else if j = (a.length + 1) * 2 + 1 then y.2 else if j = (a.length + 1) * 2 then y.1 else er (Lf (a ++ y :: x :: b)) (Hf (a ++ y :: x :: b)) j) = er (Lf (a ++ x :: y :: b)) (Hf (a ++ x :: y :: b)) j := by
  unfold er Lf Hf
  rw [getD_swap a b x y (j / 2)]
  have hm : j % 2 = 0 ∨ j % 2 = 1 := by omega
  by_cases h1 : j = a.length * 2 + 1
  · have e1 : j / 2 = a.length := by omega
    have e2 : ¬ j % 2 = 0 := by omega
    rw [if_pos h1, if_neg e2, if_neg (by omega), if_pos e1]
  rw [if_neg h1]
  by_cases h2 : j = a.length * 2
  · have e1 : j / 2 = a.length := by omega
    have e2 : j % 2 = 0 := by omega
    rw [if_pos h2, if_pos e2, if_neg (by omega), if_pos e1]
  rw [if_neg h2]
  by_cases h3 : j = (a.length + 1) * 2 + 1
  · have e1 : j / 2 = a.length + 1 := by omega
    have e2 : ¬ j % 2 = 0 := by omega
    rw [if_pos h3, if_neg e2, if_pos e1]
  rw [if_neg h3]
  by_cases h4 : j = (a.length + 1) * 2
  · have e1 : j / 2 = a.length + 1 := by omega
    have e2 : j % 2 = 0 := by omega
    rw [if_pos h4, if_pos e2, if_pos e1]
  rw [if_neg h4, if_neg (show ¬ j / 2 = a.length + 1 by omega), if_neg (show ¬ j / 2 = a.length by omega)]

end Go.Proofs.YtokaechbmnbbiabGreat

/-
  Memory of the call's own, cell by cell: a block that may be written and whose first cells are known.
-/
set_option linter.unusedVariables false
set_option linter.unusedSimpArgs false
namespace Go.Proofs.YtokaechbmnbbiabGreat
open Go.RowKit

def VHas (w : World) (b : Nat) (t : TypeId) (n : Nat) (f : Nat → Value) : Prop := ∃ cur : Array Value, w.heap[b]? = some (.cells cur t (0, 0)) ∧ n ≤ cur.size ∧ ∀ j, j < n → cur[j]? = some (f j)
theorem VHas.cell {w : World} {b n : Nat} {t : TypeId} {f : Nat → Value} (h : VHas w b t n f) {j : Nat} (hj : j < n) : w.cell? ⟨b, j, none⟩ = some (f j) := by
  obtain ⟨c, hb, _, hc⟩ := h
  simp [World.cell?, hb, hc j hj]
theorem VHas.frozen {w : World} {b n : Nat} {t : TypeId} {f : Nat → Value} (h : VHas w b t n f) (j : Nat) : w.frozen? ⟨b, j, none⟩ = false := by
  obtain ⟨c, hb, _, _⟩ := h
  simp [World.frozen?, hb]
theorem VHas.lt {w : World} {b n : Nat} {t : TypeId} {f : Nat → Value} (h : VHas w b t n f) : b < w.heap.size := by
  obtain ⟨c, hb, _, _⟩ := h
  exact (Array.getElem?_eq_some_iff.1 hb).1
theorem VHas.of_block {w w' : World} {b n : Nat} {t : TypeId} {f : Nat → Value} (h : VHas w b t n f) (e : w'.heap[b]? = w.heap[b]?) : VHas w' b t n f := by
  obtain ⟨c, hb, hn, hc⟩ := h
  exact ⟨c, e.trans hb, hn, hc⟩
theorem VHas.congr {w : World} {b n : Nat} {t : TypeId} {f g : Nat → Value} (h : VHas w b t n f) (e : ∀ j, j < n → f j = g j) : VHas w b t n g := by
  obtain ⟨c, hb, hn, hc⟩ := h
  exact ⟨c, hb, hn, fun j hj => by rw [hc j hj, e j hj]⟩
theorem VHas.set {w : World} {b n : Nat} {t : TypeId} {f : Nat → Value} (h : VHas w b t n f) (i : Nat) (v : Value) : VHas (w.setCell ⟨b, i, none⟩ v) b t n (fun j => if j = i then v else f j) := by
  obtain ⟨c, hb, hn, hc⟩ := h
  refine ⟨c.setIfInBounds i v, ?_, by simpa using hn, fun j hj => ?_⟩
  · simp [World.setCell, Array.getElem?_modify, hb]
  · rw [Array.getElem?_setIfInBounds]
    by_cases e : j = i
    · subst e
      simp; omega
    · rw [if_neg (fun h => e h.symm)]
      show c[j]? = some (if j = i then v else f j)
      rw [if_neg e]
      exact hc j hj
theorem VHas.other {w : World} {b n c i : Nat} {t : TypeId} {f : Nat → Value} (h : VHas w b t n f) (hne : b ≠ c) (v : Value) : VHas (w.setCell ⟨c, i, none⟩ v) b t n f := h.of_block (Below.heap_setCell _ _ _ _ (fun e => hne (by simpa using e)))
theorem VHas.below {w w' : World} {b n B : Nat} {t : TypeId} {f : Nat → Value} (h : VHas w b t n f) (hb : Below B w w') (hB : b < B) : VHas w' b t n f := h.of_block (hb.block b hB)
theorem VHas.next {w w' : World} {b n : Nat} {t : TypeId} {f : Nat → Value} (h : VHas w b t n f) (hb : Below w.heap.size w w') : VHas w' b t n f := h.below hb h.lt
theorem VHas.alloc {w : World} {b n : Nat} {t : TypeId} {f : Nat → Value} (h : VHas w b t n f) (o : Obj) : VHas (w.alloc o) b t n f := h.next ((Below.refl _ _).alloc (Nat.le_refl _) _)
theorem VHas.grown {w w' : World} {b n : Nat} {t : TypeId} {f : Nat → Value} {row : Option Nat} (h : VHas w b t n f) (hg : w.grownBy w' row) (hne : some b ≠ row) : VHas w' b t n f := h.of_block (hg.block b h.lt hne)
theorem VHas.of_row {w : World} {b n : Nat} {t : TypeId} {f : Nat → Value} (h : w.rowIs b t n f) : VHas w b t n f := by
  obtain ⟨c, hb, hn, hc⟩ := h
  exact ⟨c, hb, by omega, hc⟩

end Go.Proofs.YtokaechbmnbbiabGreat

/-
  Memory of the call's own, cell by cell: a block that may be written and whose first cells are known.
-/
set_option linter.unusedVariables false
set_option linter.unusedSimpArgs false
namespace Go.Proofs.YtokaechbmnbbiabGreat
open Go.RowKit

abbrev BHas (w : World) (b n : Nat) (f : Nat → Bool) : Prop := VHas w b 4 n (fun j => .bool (f j))
theorem BHas.put {w : World} {b n : Nat} {f : Nat → Bool} (h : BHas w b n f) (i : Nat) (v : Bool) : BHas (w.setCell ⟨b, i, none⟩ (.bool v)) b n (fun j => if j = i then v else f j) :=
  (VHas.set h i (.bool v)).congr (fun j _ => by by_cases e : j = i <;> simp [e])
theorem BHas.same {w : World} {b n : Nat} {f g : Nat → Bool} (h : BHas w b n f) (e : ∀ j, j < n → f j = g j) : BHas w b n g := VHas.congr h (fun j hj => by rw [e j hj])
theorem Tryz.infoBool : (Tryz.prog.info? 4).map (fun i => (i.zero, i.size, i.bytes)) = some (some (.bool false), 1, 1) := by kernel_rfl
theorem make_bools (n : Nat) (hn : n ≤ 1048576) (w : World) :
    (Instr.makeSlice 127 (.int .i64 (n : Int)) (.int .i64 (n : Int))).run Tryz.prog w = .ok (.slice (some ⟨w.heap.size, 0, none⟩) n n) (w.alloc (.cells (madeCells #[.bool false] n) 4)) :=
  run_make_row' 127 4 _ 1 Tryz.underlying127 Tryz.infoBool rfl .i64 .i64 n (by omega) (by omega) w
theorem made_bools (w : World) (n : Nat) : BHas (w.alloc (.cells (madeCells #[.bool false] n) 4)) w.heap.size n (fun _ => false) := VHas.of_row (World.rowIs_made w _ n _)

end Go.Proofs.YtokaechbmnbbiabGreat

/-
  Lists of numbers of the call's own that grow by one: the law for the walk.
-/
set_option linter.unusedVariables false
set_option linter.unusedSimpArgs false
namespace Go.Proofs.YtokaechbmnbbiabGreat
open Go.RowKit

def icells (f : Nat → Int) (n : Nat) : List Value := (List.range n).map fun j => .int .i64 (f j)
theorem icells_at {f : Nat → Int} {n j : Nat} (hj : j < n) : (icells f n)[j]? = some (.int .i64 (f j)) := by
  rw [icells, List.getElem?_map, List.getElem?_range hj]; rfl
theorem icells_len (f : Nat → Int) (n : Nat) : (icells f n).length = n := by simp [icells]
theorem icells_congr {f g : Nat → Int} {n : Nat} (h : ∀ j, j < n → f j = g j) : icells f n = icells g n := by
  apply List.ext_getElem?
  intro j
  by_cases hj : j < n
  · rw [icells_at hj, icells_at hj, h j hj]
  · rw [List.getElem?_eq_none (by rw [icells_len]; omega), List.getElem?_eq_none (by rw [icells_len]; omega)]
theorem icells_put {f g : Nat → Int} {n : Nat} (v : Int) (h1 : ∀ j, j < n → f j = g j) (h2 : g n = v) : icells f n ++ [.int .i64 v] = icells g (n + 1) := by
  rw [icells_congr h1]
  simp [icells, List.range_succ, h2]

def IOwn (w : World) (base g cap n : Nat) (f : Nat → Int) : Prop := w.ownsRow base 2 1 (.slice (some ⟨g, 0, none⟩) n cap) n (icells f n)
theorem IOwn.has {w : World} {base g cap n : Nat} {f : Nat → Int} (h : IOwn w base g cap n f) : IHas w g n f := by
  obtain ⟨hl, h0 | ⟨g', cap', cur, hv, hb, hh, h1, h2, h3, h4⟩⟩ := h
  · simp at h0
  · simp at hv
    obtain ⟨rfl, rfl⟩ := hv
    refine ⟨cur, hh, by omega, fun j hj => ?_⟩
    have : (cur.toList.take (n * 1))[j]? = (icells f n)[j]? := by rw [h4]
    rw [List.getElem?_take_of_lt (by omega), icells_at hj] at this
    simpa using this
theorem IOwn.base {w : World} {base g cap n : Nat} {f : Nat → Int} (h : IOwn w base g cap n f) : base ≤ g := (World.ownsRow.lt h g rfl).1
theorem IOwn.congr {w : World} {base g cap n : Nat} {f f' : Nat → Int} (h : IOwn w base g cap n f) (e : ∀ j, j < n → f j = f' j) : IOwn w base g cap n f' := by
  unfold IOwn at h ⊢
  rw [← icells_congr e]; exact h
theorem IOwn.below {w w' : World} {base g cap n B : Nat} {f : Nat → Int} (h : IOwn w base g cap n f) (hb : Below B w w') (hB : g < B) : IOwn w' base g cap n f := by
  refine ⟨h.1, ?_⟩
  rcases h.2 with hn | ⟨g', cap', cur, hv, hb', hgg, rest⟩
  · exact .inl hn
  · simp at hv
    obtain ⟨rfl, rfl⟩ := hv
    exact .inr ⟨g, cap, cur, rfl, hb', (hb.block g hB).trans hgg, rest⟩
theorem IOwn.lt {w : World} {base g cap n : Nat} {f : Nat → Int} (h : IOwn w base g cap n f) : g < w.heap.size := (World.ownsRow.lt h g rfl).2
theorem IOwn.grown {w w' : World} {base g cap n : Nat} {f : Nat → Int} {b : Nat} (h : IOwn w base g cap n f) (hg : w.grownBy w' (some b)) (hne : g ≠ b) : IOwn w' base g cap n f := by
  refine ⟨h.1, ?_⟩
  rcases h.2 with hn | ⟨g', cap', cur, hv, hb', hgg, rest⟩
  · exact .inl hn
  · simp at hv
    obtain ⟨rfl, rfl⟩ := hv
    exact .inr ⟨g, cap, cur, rfl, hb', (hg.block g h.lt (by simp; exact hne)).trans hgg, rest⟩

theorem IOwn.room {w : World} {base g cap n : Nat} {f : Nat → Int} (h : IOwn w base g cap n f) : n ≤ cap := by
  obtain ⟨hl, h0 | ⟨g', cap', cur, hv, hb, hh, h1, h2, h3, h4⟩⟩ := h
  · simp at h0
  · simp at hv
    omega
theorem IOwn.empty (w : World) {base : Nat} (hb : base ≤ w.heap.size) (f : Nat → Int) : IOwn (w.alloc (.cells #[] 2)) base w.heap.size 0 0 f := by
  have := World.ownsRow_lit (base := base) (e := 2) (size := 1) w #[] 0 hb (by simp) (by simp)
  simpa [IOwn, icells] using this

theorem wpList_append_int {w : World} {ops : Array Oper} {rest : List Oper} {o : Oper} {a : Act} {Q : Exit → Act → World → Prop} (hgd : o.guard = none) (s x : Operand)
    (ho : o.op = .call { callee := .builtin .append, args := #[s, x], argTypes := #[27, 27] }) (base g cap n : Nat) (f : Nat → Int) (hs : a.eval s = .slice (some ⟨g, 0, none⟩) n cap)
    (hown : IOwn w base g cap n f) (ad : Addr) (c : Nat) (v : Int) (hx : a.eval x = .slice (some ad) 1 c) (h0 : w.cell? (ad.add 0) = some (.int .i64 v)) (hn : n ≤ 1000000000) (hbase : base ≤ w.heap.size)
    (h : ∀ g' cap' w', (∀ f', (∀ j, j < n → f' j = f j) → f' n = v → IOwn w' base g' cap' (n + 1) f') → w.grownBy w' (some g) → (g' = g ∨ g' = w.heap.size) → wpList Tryz.prog ops Q rest (a.put o.dst (.slice (some ⟨g', 0, none⟩) (n + 1) cap')) w') : wpList Tryz.prog ops Q (o :: rest) a w := by
  obtain ⟨i, hi, hz0, hz1, hz2⟩ := info_parts Tryz.infoInt
  refine wpList_append_lies w hgd s x 27 ho base 2 i _ 1 8 Tryz.underlying27 hi hz0 hz1 hz2 rfl (by omega) _ n (icells f n) hs hown ad 1 c [.int .i64 v] hx rfl ?_ ?_ (by omega) (by unfold maxLen; omega) (by omega) hbase w.heap.size rfl ?_
  · intro j u hu
    match j, hu with
    | 0, hu => simp at hu; subst hu; exact h0
    | j + 1, hu => simp at hu
  · intro u hu
    simp at hu
    subst hu; rfl
  · intro g' cap' w' hown' hgrow hat hlt
    refine h g' cap' w' (fun f' e1 e2 => ?_) hgrow ?_
    · rw [icells_put v (fun j hj => (e1 j hj).symm) e2] at hown'
      exact hown'
    · rcases hat with e | e
      · simp [Value.ownBlock] at e; exact Or.inl e.symm
      · exact Or.inr e

end Go.Proofs.YtokaechbmnbbiabGreat

/-
  A list of numbers that is answered, in new memory.
-/
set_option linter.unusedVariables false
set_option linter.unusedSimpArgs false
namespace Go.Proofs.YtokaechbmnbbiabGreat
open Go.RowKit

def Ans (w w' : World) (e : Ending) (m : Nat) (D : Nat → Int) : Prop := ∃ ao cap, e = .returned (.slice ao m cap) ∧ (0 < m → ∃ g, ao = some ⟨g, 0, none⟩ ∧ w.heap.size ≤ g ∧ IHas w' g m D) ∧ Below w.heap.size w w'

theorem ans_of {w w' : World} {e : Ending} {m m' : Nat} {D : Nat → Int} (h : m = m') (H : Ans w w' e m' D) : Ans w w' e m D := by rw [h]; exact H

end Go.Proofs.YtokaechbmnbbiabGreat

/-
  A region that draws its order and whose last operation waits for all others: one walk in the order of the text serves every order; the last operation may store.
-/
set_option linter.unusedVariables false
set_option linter.unusedSimpArgs false
namespace Go.Proofs.YtokaechbmnbbiabGreat
open Go

theorem yielded_congr {ops ops' : Array Oper} (h : ∀ j : Nat, (ops[j]?).map (·.dst) = (ops'[j]?).map (·.dst)) (tmps : Array Value) : yielded ops tmps = yielded ops' tmps := by
  funext j
  have e : (ops[j]?.bind fun x => x.dst) = (ops'[j]?.bind fun x => x.dst) := by
    have := h j
    cases h1 : ops[j]? <;> cases h2 : ops'[j]? <;> simp_all
  unfold yielded
  rw [e]

theorem ready_congr {md : Region.Mode} {ops ops' : Array Oper} (hs : ops.size = ops'.size) (h : ∀ j : Nat, (ops[j]?).map (·.after) = (ops'[j]?).map (·.after)) (listed : Array Bool) : Region.ready md ops listed = Region.ready md ops' listed := by
  unfold Region.ready
  rw [hs]
  apply List.filter_congr
  intro j _
  have := h j
  cases h1 : ops[j]? <;> cases h2 : ops'[j]? <;> simp_all

def fwdB (ops : Array Oper) : Bool := (List.range ops.size).all fun j => match ops[j]? with
  | some o => o.after.all fun e => !Region.binds .any e || decide (e.on < j)
  | none => true
def lastB (ops : Array Oper) (n : Nat) : Bool := match ops[n]? with
  | some o => (List.range n).all fun j => o.after.any fun e => Region.binds .any e && e.on == j
  | none => false

theorem ready_ne {ops : Array Oper} (hf : fwdB ops = true) {listed : Array Bool} (hs : listed.size = ops.size) : ∀ j, j < ops.size → listed.getD j true = false → Region.ready .any ops listed ≠ [] := by
  intro j
  induction j using Nat.strongRecOn with
  | ind j ih =>
    intro hj hl h0
    have hj' : ops[j]? = some ops[j] := Array.getElem?_eq_getElem hj
    by_cases hr : ∀ e ∈ ops[j].after, Region.binds .any e = true → listed.getD e.on false = true
    · have : j ∈ Region.ready .any ops listed := mem_ready.2 ⟨hl, _, hj', hr⟩
      rw [h0] at this
      cases this
    · have hr' : ∃ e, e ∈ ops[j].after ∧ Region.binds .any e = true ∧ ¬ listed.getD e.on false = true := by
        refine Classical.byContradiction fun hn => hr fun e he hb => ?_
        exact Classical.byContradiction fun hx => hn ⟨e, he, hb, hx⟩
      obtain ⟨e, he, hb, hx⟩ := hr'
      have hlt : e.on < j := by
        unfold fwdB at hf
        have := List.all_eq_true.1 hf j (List.mem_range.2 hj)
        simp only [hj'] at this
        have := Array.all_eq_true_iff_forall_mem.1 this e he
        simpa [hb] using this
      have hlt' : e.on < listed.size := by omega
      refine ih e.on hlt (by omega) ?_ h0
      simp [hlt'] at hx ⊢
      exact hx

theorem all_listed {ops : Array Oper} {n : Nat} (hn : ops.size = n + 1) (hl : lastB ops n = true) {listed : Array Bool} (hs : listed.size = ops.size) (hr : n ∈ Region.ready .any ops listed) : Region.ready .any ops (listed.setIfInBounds n true) = [] := by
  refine List.eq_nil_iff_forall_not_mem.2 fun i hi => ?_
  obtain ⟨hli, o, ho, _⟩ := mem_ready.1 hi
  have hin : i < n + 1 := by
    have := (Array.getElem?_eq_some_iff.1 ho).1
    omega
  obtain ⟨_, o', ho', hall⟩ := mem_ready.1 hr
  by_cases e : i = n
  · subst e
    have : i < listed.size := by omega
    simp [this] at hli
  · unfold lastB at hl
    rw [ho'] at hl
    have := List.all_eq_true.1 hl i (List.mem_range.2 (by omega))
    obtain ⟨ed, hed, hb⟩ : ∃ ed ∈ o'.after, Region.binds .any ed = true ∧ ed.on = i := by
      obtain ⟨x, hx, hp⟩ := Array.any_eq_true.1 this
      exact ⟨_, Array.getElem_mem hx, by simpa using hp⟩
    have h1 := hall ed hed hb.1
    rw [hb.2] at h1
    rw [getD_set_ne true (fun h => e h.symm)] at hli
    have : i < listed.size := by omega
    simp [this] at hli h1
    rw [hli] at h1
    cases h1

section
variable {P : Program} {ops ops' : Array Oper} {C : World → Prop}

theorem any_last {n : Nat} {o o' : Oper} {Q : Act → Prop} {Q' : Exit → Act → World → Prop} (hn : ops.size = n + 1) (hs : ops.size = ops'.size) (hon : ops[n]? = some o) (hon' : ops'[n]? = some o') (hd : o.dst = none) (hd' : o'.dst = none) (hg : o.guard = none) (hg' : o'.guard = none)
    (hsame : ∀ j, j ≠ n → ops[j]? = ops'[j]?) (hafter : o.after = o'.after) (hf : fwdB ops = true) (hl : lastB ops n = true)
    (htail : ∀ a w, C w → Q a → o.wp P a w (fun a' w' => Q' .normal a' w') Q') :
    ∀ (fuel : Nat) (listed : Array Bool) (a : Act) (w : World), listed.size = ops.size → listed.getD n true = false → C w → wpAnyQ P .any ops' C Q fuel listed a → wpAny P .any ops Q' fuel listed a w := by
  have hrc : ∀ listed, Region.ready .any ops listed = Region.ready .any ops' listed := fun listed => ready_congr hs (fun j => by
    by_cases e : j = n
    · subst e; rw [hon, hon']; simp [hafter]
    · rw [hsame j e]) listed
  have hyc : ∀ tmps, yielded ops tmps = yielded ops' tmps := yielded_congr (fun j => by
    by_cases e : j = n
    · subst e; rw [hon, hon']; simp [hd, hd']
    · rw [hsame j e])
  intro fuel
  induction fuel with
  | zero =>
    intro listed a w hsz hun hC h
    exact absurd ((hrc listed).trans h.1) (ready_ne hf hsz n (by omega) hun)
  | succ fuel ih =>
    intro listed a w hsz hun hC h
    refine ⟨fun h0 => absurd h0 (ready_ne hf hsz n (by omega) hun), fun i hi => ?_⟩
    have hi' : i ∈ Region.ready .any ops' listed := (hrc listed) ▸ hi
    have hq := h.2 i hi'
    by_cases e : i = n
    · subst e
      have hnil := all_listed hn hl hsz hi
      have hnil' := (hrc _).symm.trans hnil
      unfold qOp at hq
      simp only [hon'] at hq
      have hw' : Region.wanted o' (yielded ops' a.tmps) = true := by simp [Region.wanted, hg']
      rw [if_pos hw'] at hq
      obtain ⟨v, _, hnext⟩ := hq
      rw [hd'] at hnext
      have hQa : Q a := by
        cases fuel with
        | zero => exact hnext.2
        | succ f => exact hnext.1 hnil'
      unfold wpOp
      simp only [hon]
      have hw : Region.wanted o (yielded ops a.tmps) = true := by simp [Region.wanted, hg]
      rw [if_pos hw]
      refine .inl (Oper.wp_mono (fun a' w' hq' => ?_) (htail a w hC hQa))
      cases fuel with
      | zero => exact ⟨hnil, hq'⟩
      | succ f => exact ⟨fun _ => hq', fun j hj => by rw [hnil] at hj; cases hj⟩
    · have hq2 : qOp P ops C i (wpAnyQ P .any ops' C Q fuel (listed.setIfInBounds i true)) a := by
        unfold qOp at hq ⊢
        rw [hsame i e, hyc]
        exact hq
      refine wpOp_of_qOp hC (fun a' w' hC' hK => ih _ a' w' (by simpa using hsz) ?_ hC' hK) hq2
      rw [getD_set_ne true e]
      exact hun
end

theorem wp_region_last {P : Program} {id : Nat} {Q : Exit → Act → World → Prop} {a : Act} {w : World} {l : List Oper} {o : Oper} (hm : P.follows .mixedOrders = true)
    (hd : o.dst = none) (hg : o.guard = none) (hB : Region.lexB .any (l ++ [{ o with op := .move (.const undef) }]).toArray = true) (hf : fwdB (l ++ [o]).toArray = true) (hl : lastB (l ++ [o]).toArray l.length = true)
    (h : wpQuiet P (l ++ [{ o with op := .move (.const undef) }]).toArray (fun w' => ∃ n, w' = w.drewN n) (fun a' => ∀ w', (∃ n, w' = w.drewN n) → o.wp P a' w' (fun a2 w2 => Q .normal a2 w2) Q) (l ++ [{ o with op := .move (.const undef) }]) a) :
    (Code.region id (l ++ [o]).toArray true).wp P Q a w := by
  simp only [Region.lexB, Bool.and_eq_true] at hB
  refine wp_region_any hm (any_last (ops' := (l ++ [{ o with op := .move (.const undef) }]).toArray) (n := l.length) (o := o) (o' := { o with op := .move (.const undef) }) (C := fun w' => ∃ n, w' = w.drewN n) (Q := fun a' => ∀ w', (∃ n, w' = w.drewN n) → o.wp P a' w' (fun a2 w2 => Q .normal a2 w2) Q) (by simp) (by simp) (by simp) (by simp) hd hd hg hg (fun j hj => ?_) rfl hf hl (fun a' w' hC hq => hq w' hC) _ _ _ _ (by simp) (by simp) ⟨1, rfl⟩ ?_)
  · simp only [List.getElem?_toArray]
    by_cases hlt : j < l.length
    · rw [List.getElem?_append_left hlt, List.getElem?_append_left hlt]
    · rw [List.getElem?_eq_none (by simp; omega), List.getElem?_eq_none (by simp; omega)]
  · have := wpAnyQ_lex (C := fun w' => ∃ n, w' = w.drewN n) (md := .any) hB.1 (l ++ [{ o with op := .move (.const undef) }]) 0 (Array.replicate (l ++ [{ o with op := .move (.const undef) }]).toArray.size false) a (by simp) (by simpa using hB.2) h
    simpa using this

theorem wp_region_last_lit {P : Program} {id : Nat} {Q : Exit → Act → World → Prop} {a : Act} {w : World} {L : List Oper} (n : Nat) {o : Oper} (hm : P.follows .mixedOrders = true) (hL : L = L.take n ++ [o])
    (hd : o.dst = none) (hg : o.guard = none) (hB : Region.lexB .any (L.take n ++ [{ o with op := .move (.const undef) }]).toArray = true) (hf : fwdB L.toArray = true) (hl : lastB L.toArray n = true) (hn : (L.take n).length = n)
    (h : wpQuiet P (L.take n ++ [{ o with op := .move (.const undef) }]).toArray (fun w' => ∃ n, w' = w.drewN n) (fun a' => ∀ w', (∃ n, w' = w.drewN n) → o.wp P a' w' (fun a2 w2 => Q .normal a2 w2) Q) (L.take n ++ [{ o with op := .move (.const undef) }]) a) :
    (Code.region id L.toArray true).wp P Q a w := by
  rw [hL]
  refine wp_region_last hm hd hg hB (by rw [← hL]; exact hf) (by rw [← hL, hn]; exact hl) h

end Go.Proofs.YtokaechbmnbbiabGreat

/-
  Order, the document's: the square of neighbours, the neighbours of a place, a place that is taken away. For maps of at most 24 places.
-/
set_option linter.unusedVariables false
set_option linter.unusedSimpArgs false
namespace Go.Proofs.YtokaechbmnbbiabGreat
open Go.RowKit
attribute [local go_sem ↓] Go.wp_at_zero Go.wp_at_succ

def flat (p : Nat) (B : Nat → Nat → Bool) (j : Nat) : Bool := B (j / p) (j % p)
theorem flat_at {p x y : Nat} (B : Nat → Nat → Bool) (hy : y < p) : flat p B (x * p + y) = B x y := by
  unfold flat
  have h1 : (x * p + y) / p = x := by
    rw [Nat.mul_comm, Nat.mul_add_div (by omega), Nat.div_eq_of_lt hy]; rfl
  have h2 : (x * p + y) % p = y := by
    rw [Nat.mul_comm, Nat.mul_add_mod, Nat.mod_eq_of_lt hy]
  rw [h1, h2]
theorem flat_upd {p x y : Nat} (B : Nat → Nat → Bool) (hy : y < p) (v : Bool) (j : Nat) : (if j = x * p + y then v else flat p B j) = flat p (upd B x y v) j := by
  by_cases e : j = x * p + y
  · rw [if_pos e, e, flat_at _ hy]; simp [upd]
  · rw [if_neg e]
    unfold flat upd
    rw [if_neg (fun h => e ?_)]
    have := Nat.div_add_mod j p
    rw [h.1, h.2, Nat.mul_comm] at this
    omega
theorem row_lt {p x y : Nat} (hx : x < p) (hy : y < p) : x * p + y < p * p := by
  have h1 : x * p + y < (x + 1) * p := by rw [Nat.add_mul]; omega
  have h2 : (x + 1) * p ≤ p * p := Nat.mul_le_mul_right p (by omega)
  omega
abbrev Sq (w : World) (b p : Nat) (B : Nat → Nat → Bool) : Prop := BHas w b (p * p) (flat p B)
theorem Sq.at {w : World} {b p : Nat} {B : Nat → Nat → Bool} (h : Sq w b p B) {x y : Nat} (hx : x < p) (hy : y < p) : w.cell? ⟨b, x * p + y, none⟩ = some (.bool (B x y)) := by
  rw [VHas.cell h (row_lt hx hy), flat_at _ hy]
theorem Sq.put {w : World} {b p : Nat} {B : Nat → Nat → Bool} (h : Sq w b p B) {x y : Nat} (hy : y < p) (v : Bool) : Sq (w.setCell ⟨b, x * p + y, none⟩ (.bool v)) b p (upd B x y v) :=
  (BHas.put h (x * p + y) v).same (fun j _ => flat_upd B hy v j)

theorem idx_nn (x y p : Nat) : ((x : Int) * (p : Int) + (y : Int)) = ((x * p + y : Nat) : Int) := by simp
theorem mul_lt24 {x p : Nat} (hx : x < p) (hp : p ≤ 24) : x * p ≤ 552 := Nat.le_trans (Nat.mul_le_mul (show x ≤ 23 by omega) hp) (by omega)

set_option maxHeartbeats 1000000 in
theorem l3Square_any (p : Nat) (ao : Option Addr) (n cap : Nat) (F T G : Nat → Int) (hp1 : 1 ≤ p) (hp : p ≤ 24) (hn : n ≤ 100) (hF : ∀ k, k < n → 0 ≤ F k ∧ F k < (p : Int)) (hT : ∀ k, k < n → 0 ≤ T k ∧ T k < (p : Int)) (hFT : ∀ k, k < n → F k ≠ T k) (w : World) (hr : Row w ao n F T G) :
    Calls Tryz.prog 92 #[.agg #[.int .i64 (p : Int), .slice ao n cap]] w fun e w' => e = .returned (.slice (some ⟨w.heap.size + 1, 0, none⟩) (p * p) (p * p)) ∧ Sq w' (w.heap.size + 1) p (nbA F T n) ∧ Below w.heap.size w w' := by
  have hpp : p * p ≤ 576 := Nat.mul_le_mul hp hp
  have hmk := make_bools (p * p) (by omega)
  simp only [Int.natCast_mul] at hmk
  have hpi : (p : Int) * (p : Int) ≤ 576 := by
    have : ((p * p : Nat) : Int) ≤ 576 := by omega
    simpa using this
  have hpi0 : 0 ≤ (p : Int) * (p : Int) := Int.mul_nonneg (by omega) (by omega)
  go_enter Tryz.func92, Tryz.ntmps92
  go_wp2
  clear hmk
  go_loopw [4] (fun i wr => ∃ k : Nat, k ≤ n ∧ i = .int .i64 k ∧ Sq wr (w.heap.size + 1) p (nbA F T k) ∧ Below (w.heap.size + 1) (w.alloc (.cells #[.int .i64 (p : Int), .slice ao n cap] 26)) wr) (fun i _ => n - (intOf i).toNat)
  case atStart => exact ⟨0, Nat.zero_le _, rfl, by have := made_bools (w.alloc (.cells #[.int .i64 (p : Int), .slice ao n cap] 26)) (p * p); simp only [World.size_alloc] at this; exact this.same (fun j _ => rfl), (Below.refl _ _).alloc (by simp) _⟩
  case round =>
    obtain ⟨k, hk, rfl, hsq, hbel⟩ := hrel
    obtain ⟨x0, x1, xs⟩ := box2 hbel
    by_cases hlt : k < n
    rotate_left
    · have hkn : k = n := by omega
      subst hkn
      go_wp2
      go_ret
      exact ⟨rfl, hsq, unbox hbel (by omega)⟩
    obtain ⟨b, o, hao, c0, c1, c2⟩ := ((hr.alloc _).below hbel (by simp)) k hlt
    subst hao
    have hf0 := hF k hlt
    have ht0 := hT k hlt
    obtain ⟨f, hf⟩ : ∃ f : Nat, F k = (f : Int) := ⟨(F k).toNat, by omega⟩
    obtain ⟨t, ht⟩ : ∃ t : Nat, T k = (t : Int) := ⟨(T k).toNat, by omega⟩
    have hFT' := hFT k hlt
    have hst : Hid (nbA F T (k + 1) = upd2 (nbA F T k) f t true) := by
      show upd2 (nbA F T k) (F k).toNat (T k).toNat true = _
      rw [hf, ht]; rfl
    rw [hf] at c0 hf0
    rw [ht] at c1 ht0
    have hfe := hf
    have hte := ht
    clear hf ht
    have hfp : f < p := by omega
    have htp : t < p := by omega
    have hbw : b < wr.heap.size := lt_of_cell c0
    have hsl := VHas.lt hsq
    have d0 := Sq.at hsq hfp htp
    have z0 := VHas.frozen hsq (f * p + t)
    have d1 := Sq.at hsq htp hfp
    have z1 := VHas.frozen hsq (t * p + f)
    have h3 := (Sq.put (Sq.put hsq (x := f) htp true) (x := t) hfp true).alloc (.cells #[.int .i64 (f : Int), .int .i64 (t : Int), .int .i64 (G k)] 115)
    have hne : f ≠ t := by
      rw [hfe, hte] at hFT'
      omega
    have n1 : ¬ f * p + t = t * p + f := fun e => by
      have e1 := flat_at (p := p) (x := f) (fun x y => x == t) htp
      rw [e, flat_at _ hfp] at e1
      simp at e1
      exact hne e1
    have n2 : ¬ t * p + f = f * p + t := fun e => n1 e.symm
    have i1 := mul_lt24 hfp hp
    have i2 := mul_lt24 htp hp
    have i3 := row_lt hfp htp
    have i4 := row_lt htp hfp
    have j1 : 0 ≤ (f : Int) * (p : Int) := Int.mul_nonneg (by omega) (by omega)
    have j2 : (f : Int) * (p : Int) ≤ 552 := by have : ((f * p : Nat) : Int) ≤ 552 := by omega
                                                simpa using this
    have j3 : 0 ≤ (t : Int) * (p : Int) := Int.mul_nonneg (by omega) (by omega)
    have j4 : (t : Int) * (p : Int) ≤ 552 := by have : ((t * p : Nat) : Int) ≤ 552 := by omega
                                                simpa using this
    have j5 : (f : Int) * (p : Int) + (t : Int) < (p : Int) * (p : Int) := by have : ((f * p + t : Nat) : Int) < ((p * p : Nat) : Int) := by omega
                                                                              simpa using this
    have j6 : (t : Int) * (p : Int) + (f : Int) < (p : Int) * (p : Int) := by have : ((t * p + f : Nat) : Int) < ((p * p : Nat) : Int) := by omega
                                                                              simpa using this
    have j7 : ((f : Int) * (p : Int) + (t : Int)).toNat = f * p + t := by rw [idx_nn]; omega
    have j8 : ((t : Int) * (p : Int) + (f : Int)).toNat = t * p + f := by rw [idx_nn]; omega
    have S := ((hbel.setCell (p := ⟨w.heap.size + 1, f * p + t, none⟩) (by simp) (.bool true)).setCell (p := ⟨w.heap.size + 1, t * p + f, none⟩) (by simp) (.bool true)).alloc (o := .cells #[.int .i64 (f : Int), .int .i64 (t : Int), .int .i64 (G k)] 115) (by simp; omega)
    clear hsq i1 i2 i3 i4 hfe hte hFT'
    go_wp2
    go_roundw
    case rel => exact ⟨k + 1, by omega, by go_num, by rw [hst.out]; exact h3, S⟩
    case measure => simp [intOf]; omega

end Go.Proofs.YtokaechbmnbbiabGreat
