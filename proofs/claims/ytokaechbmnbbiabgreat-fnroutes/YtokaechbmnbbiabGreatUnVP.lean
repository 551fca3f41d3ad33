/-
  Plain: in a right net a way over lower ranks is at least as long as its edge; so a way that is unpacked meets no place twice.
-/
import Derived.Test.YtokaechbmnbbiabGreatUnWP
set_option linter.unusedVariables false
set_option linter.unusedSimpArgs false
namespace Go.Proofs.YtokaechbmnbbiabGreat

def Net.dw (x : Net) (a b : Nat) : Int := if a < b then x.U a b else x.D b a
structure Net.Right (x : Net) (k : Nat) : Prop where
  one : ∀ a b, 1 ≤ x.lw (x.O a) (x.O b)
  arc : ∀ a b, a < k → b < k → a ≠ b → x.lw (x.O a) (x.O b) < 1000000000000 → x.hs (min a b) (max a b) = true ∧ x.dw a b ≤ x.lw (x.O a) (x.O b)
  tri : ∀ r a b, r < a → r < b → a < k → b < k → a ≠ b → x.hs r a = true → x.hs r b = true → x.hs (min a b) (max a b) = true ∧ x.dw a b ≤ x.D r a + x.U r b
def Net.sr (x : Net) : Nat → List Nat → Int
  | _, [] => 0
  | a, b :: l => x.lw (x.O a) (x.O b) + x.sr b l
theorem Net.sr_pos {x : Net} {k : Nat} (hR : x.Right k) : ∀ (l : List Nat) (a : Nat), (l.length : Int) ≤ x.sr a l
  | [], a => by simp [Net.sr]
  | b :: l, a => by
    have h1 := hR.one a b
    have h2 := Net.sr_pos hR l b
    simp only [Net.sr, List.length_cons]
    omega
theorem Net.sr_app (x : Net) : ∀ (l : List Nat) (b : Nat) (l' : List Nat) (a : Nat), x.sr a (l ++ b :: l') = x.sr a (l ++ [b]) + x.sr b l'
  | [], b, l', a => by simp [Net.sr]
  | c :: l, b, l', a => by
    simp only [List.cons_append, Net.sr, Net.sr_app x l b l' c]
    omega
theorem split_last {q : Nat} : ∀ l : List Nat, q ∉ l ∨ ∃ l1 l2, l = l1 ++ q :: l2 ∧ q ∉ l2
  | [] => Or.inl (by simp)
  | a :: l => by
    rcases split_last (q := q) l with h | ⟨l1, l2, h1, h2⟩
    · by_cases e : a = q
      · subst e
        exact Or.inr ⟨[], l, rfl, h⟩
      · left
        simp only [List.mem_cons, not_or]
        exact ⟨fun h' => e h'.symm, h⟩
    · exact Or.inr ⟨a :: l1, l2, by rw [h1]; rfl, h2⟩
theorem split_first {q : Nat} : ∀ l : List Nat, q ∉ l ∨ ∃ l1 l2, l = l1 ++ q :: l2 ∧ q ∉ l1
  | [] => Or.inl (by simp)
  | a :: l => by
    by_cases e : a = q
    · subst e
      exact Or.inr ⟨[], l, rfl, by simp⟩
    · rcases split_first (q := q) l with h | ⟨l1, l2, h1, h2⟩
      · left
        simp only [List.mem_cons, not_or]
        exact ⟨fun h' => e h'.symm, h⟩
      · refine Or.inr ⟨a :: l1, l2, by rw [h1]; rfl, ?_⟩
        simp only [List.mem_cons, not_or]
        exact ⟨fun h' => e h'.symm, h2⟩
theorem Net.low {x : Net} {k : Nat} (hR : x.Right k) : ∀ (q : Nat) (l : List Nat) (a b : Nat), (∀ r ∈ l, r < q) → q ≤ a → q ≤ b → a < k → b < k → a ≠ b → x.sr a (l ++ [b]) < 1000000000000 →
    x.hs (min a b) (max a b) = true ∧ x.dw a b ≤ x.sr a (l ++ [b]) := by
  intro q
  induction q with
  | zero =>
    intro l a b hl ha hb hak hbk hab hf
    cases l with
    | nil =>
      simp only [List.nil_append, Net.sr, Int.add_zero] at hf ⊢
      exact hR.arc a b hak hbk hab hf
    | cons c l => have := hl c (by simp); omega
  | succ q ih =>
    intro l a b hl ha hb hak hbk hab hf
    rcases split_first (q := q) l with h | ⟨l1, l2, h1, h2⟩
    · exact ih l a b (fun r hr => by
        have := hl r hr
        have : r ≠ q := fun e => h (e ▸ hr)
        omega) (by omega) (by omega) hak hbk hab hf
    · subst h1
      have hs1 : x.sr a ((l1 ++ q :: l2) ++ [b]) = x.sr a (l1 ++ [q]) + x.sr q (l2 ++ [b]) := by
        rw [List.append_assoc]
        exact x.sr_app l1 q (l2 ++ [b]) a
      have p1 := Net.sr_pos hR (l1 ++ [q]) a
      have p2 := Net.sr_pos hR (l2 ++ [b]) q
      rw [hs1] at hf ⊢
      have i1 := ih l1 a q (fun r hr => by
        have := hl r (by simp [hr])
        have : r ≠ q := fun e => h2 (e ▸ hr)
        omega) (by omega) (Nat.le_refl _) hak (by omega) (by omega) (by omega)
      have hlast : ∃ l3, (∀ r ∈ l3, r < q) ∧ x.sr q (l3 ++ [b]) ≤ x.sr q (l2 ++ [b]) := by
        rcases split_last (q := q) l2 with h | ⟨m1, m2, h3, h4⟩
        · exact ⟨l2, fun r hr => by
            have := hl r (by simp [hr])
            have : r ≠ q := fun e => h (e ▸ hr)
            omega, Int.le_refl _⟩
        · refine ⟨m2, fun r hr => by
            have := hl r (by rw [h3]; simp [hr])
            have : r ≠ q := fun e => h4 (e ▸ hr)
            omega, ?_⟩
          have e2 : x.sr q ((m1 ++ q :: m2) ++ [b]) = x.sr q (m1 ++ [q]) + x.sr q (m2 ++ [b]) := by
            rw [List.append_assoc]
            exact x.sr_app m1 q (m2 ++ [b]) q
          have p3 := Net.sr_pos hR (m1 ++ [q]) q
          rw [h3, e2]
          omega
      obtain ⟨l3, h5, h6⟩ := hlast
      have i2 := ih l3 q b h5 (Nat.le_refl _) (by omega) (by omega) hbk (by omega) (by omega)
      have e1 : min a q = q := by omega
      have e1' : max a q = a := by omega
      have e2 : min q b = q := by omega
      have e2' : max q b = b := by omega
      rw [e1, e1'] at i1
      rw [e2, e2'] at i2
      have d1 : x.dw a q = x.D q a := by unfold Net.dw; rw [if_neg (by omega)]
      have d2 : x.dw q b = x.U q b := by unfold Net.dw; rw [if_pos (by omega)]
      rw [d1] at i1
      rw [d2] at i2
      have ht := hR.tri q a b (by omega) (by omega) hak hbk hab i1.1 i2.1
      exact ⟨ht.1, by omega⟩
theorem nodup_len : ∀ (n : Nat) (l : List Nat), l.Nodup → (∀ x ∈ l, x < n) → l.length ≤ n
  | 0, l, _, h => by
    cases l with
    | nil => simp
    | cons a l => have := h a (by simp); omega
  | n + 1, l, hd, h => by
    rcases split_first (q := n) l with hn | ⟨l1, l2, h1, h2⟩
    · have := nodup_len n l hd (fun x hx => by
        have := h x hx
        have : x ≠ n := fun e => hn (e ▸ hx)
        omega)
      omega
    · subst h1
      rw [List.nodup_append] at hd
      obtain ⟨a1, a2, a3⟩ := hd
      rw [List.nodup_cons] at a2
      have hd' : (l1 ++ l2).Nodup := by
        rw [List.nodup_append]
        exact ⟨a1, a2.2, fun x hx y hy => a3 x hx y (by simp [hy])⟩
      have := nodup_len n (l1 ++ l2) hd' (fun x hx => by
        rcases List.mem_append.1 hx with hx | hx
        · have := h x (by simp [hx])
          have : x ≠ n := fun e => h2 (e ▸ hx)
          omega
        · have := h x (by simp [hx])
          have : x ≠ n := fun e => a2.1 (e ▸ hx)
          omega)
      simp only [List.length_append, List.length_cons] at this ⊢
      omega
theorem twice_of : ∀ l : List Nat, ¬ l.Nodup → ∃ y l1 l2 l3, l = l1 ++ y :: (l2 ++ y :: l3)
  | [], h => absurd List.nodup_nil h
  | a :: l, h => by
    by_cases hd : l.Nodup
    · have hm : a ∈ l := by
        apply Classical.byContradiction
        intro hn
        exact h (List.nodup_cons.2 ⟨hn, hd⟩)
      obtain ⟨l2, l3, e⟩ := List.append_of_mem hm
      exact ⟨a, [], l2, l3, by rw [e]; rfl⟩
    · obtain ⟨y, l1, l2, l3, e⟩ := twice_of l hd
      exact ⟨y, a :: l1, l2, l3, by rw [e]; rfl⟩
theorem Net.once {x : Net} {k : Nat} (hR : x.Right k) {q a b : Nat} {l : List Nat} (hl : ∀ r ∈ l, r < q) (ha : q ≤ a) (hb : q ≤ b) (hak : a < k) (hbk : b < k) (hab : a ≠ b) (hf : x.sr a (l ++ [b]) < 1000000000000) (hs : x.sr a (l ++ [b]) ≤ x.dw a b) : l.length ≤ q := by
  refine nodup_len q l (Classical.byContradiction fun hn => ?_) hl
  obtain ⟨y, l1, l2, l3, rfl⟩ := twice_of l hn
  have e1 : x.sr a ((l1 ++ y :: (l2 ++ y :: l3)) ++ [b]) = x.sr a (l1 ++ [y]) + (x.sr y (l2 ++ [y]) + x.sr y (l3 ++ [b])) := by
    rw [List.append_assoc, List.cons_append, x.sr_app l1 y, List.append_assoc, List.cons_append, x.sr_app l2 y]
  have e2 : x.sr a ((l1 ++ y :: l3) ++ [b]) = x.sr a (l1 ++ [y]) + x.sr y (l3 ++ [b]) := by
    rw [List.append_assoc, List.cons_append, x.sr_app l1 y]
  have p := Net.sr_pos hR (l2 ++ [y]) y
  simp only [List.length_append, List.length_singleton] at p
  rw [e1] at hf hs
  have hlow := (Net.low hR q (l1 ++ y :: l3) a b (fun r hr => hl r (by
    rcases List.mem_append.1 hr with h | h
    · simp [h]
    · rcases List.mem_cons.1 h with h | h
      · simp [h]
      · simp [h])) ha hb hak hbk hab (by rw [e2]; omega)).2
  rw [e2] at hlow
  omega

end Go.Proofs.YtokaechbmnbbiabGreat
