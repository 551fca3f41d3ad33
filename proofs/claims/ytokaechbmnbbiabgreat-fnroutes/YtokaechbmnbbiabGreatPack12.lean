/-
  Helpers, merged: ShB, UnP, UnL, UnS, Nums, EqI, Steps, Room, RoomW.
-/
import Derived.Test.YtokaechbmnbbiabGreatPack8
import Derived.Test.YtokaechbmnbbiabGreatPack1
import Derived.Test.YtokaechbmnbbiabGreatPack6
import Derived.Deep.AppendLies
import Derived.Test.YtokaechbmnbbiabGreatPack11
import Derived.Test.YtokaechbmnbbiabGreatPack10
import Derived.Test.YtokaechbmnbbiabGreatPack4
import Derived.Laws.CopyOwn
import Derived.Laws.Rows
import Derived.Test.YtokaechbmnbbiabGreatPack2
/-
  A customized metric is right, plainly: no triangle makes an edge shorter.
-/
set_option linter.unusedVariables false
set_option linter.unusedSimpArgs false
namespace Go.Proofs.YtokaechbmnbbiabGreat

section
variable {k m : Nat} {L H : Nat → Int}
/-- What a triangle writes lies above its own lower edges. -/
theorem runT_same {s : (Nat → Int) × (Nat → Int)} {j : Nat} : ∀ l : List Tr, (∀ t ∈ l, t.2.2 ≠ j) → (runT s l).1 j = s.1 j ∧ (runT s l).2 j = s.2 j := by
  intro l
  induction l generalizing s with
  | nil => intro _; exact ⟨rfl, rfl⟩
  | cons t l ih =>
    intro h
    have h0 := h t (by simp)
    have h1 := ih (s := stT s t) (fun x hx => h x (by simp [hx]))
    have e : runT s (t :: l) = runT (stT s t) l := rfl
    rw [e, h1.1, h1.2]
    refine ⟨?_, ?_⟩
    · show stU s t j = s.1 j
      unfold stU
      rw [if_neg (fun q => h0 q.symm)]
    · show (if j = t.2.2 then min (s.2 t.2.2) (dnT (stU s t) s.2 t) else s.2 j) = s.2 j
      rw [if_neg (fun q => h0 q.symm)]
theorem stT_le (s : (Nat → Int) × (Nat → Int)) (t : Tr) (j : Nat) : (stT s t).1 j ≤ s.1 j ∧ (stT s t).2 j ≤ s.2 j := by
  refine ⟨?_, ?_⟩
  · show stU s t j ≤ s.1 j
    unfold stU
    split
    · rename_i e; rw [e]; omega
    · exact Int.le_refl _
  · show (if j = t.2.2 then min (s.2 t.2.2) (dnT (stU s t) s.2 t) else s.2 j) ≤ s.2 j
    split
    · rename_i e; rw [e]; omega
    · exact Int.le_refl _
theorem runT_le {s : (Nat → Int) × (Nat → Int)} {j : Nat} : ∀ l : List Tr, (runT s l).1 j ≤ s.1 j ∧ (runT s l).2 j ≤ s.2 j := by
  intro l
  induction l generalizing s with
  | nil => exact ⟨Int.le_refl _, Int.le_refl _⟩
  | cons t l ih =>
    have h1 := ih (s := stT s t)
    have h2 := stT_le s t j
    have e : runT s (t :: l) = runT (stT s t) l := rfl
    rw [e]
    omega
/-- The triangles come by their least place. -/
def Sorted (L : Nat → Int) : List Tr → Prop
  | [] => True
  | t :: l => (∀ x ∈ l, L t.1 ≤ L x.1) ∧ Sorted L l
theorem sorted_append {L : Nat → Int} : ∀ l l' : List Tr, Sorted L l → Sorted L l' → (∀ x ∈ l, ∀ y ∈ l', L x.1 ≤ L y.1) → Sorted L (l ++ l')
  | [], l', _, h2, _ => h2
  | t :: l, l', h1, h2, h3 => ⟨fun x hx => by
      rcases List.mem_append.1 hx with q | q
      · exact h1.1 x q
      · exact h3 t (by simp) x q, sorted_append l l' h1.2 h2 (fun x hx y hy => h3 x (by simp [hx]) y hy)⟩
theorem rowT_fst {n i : Nat} : ∀ f q, ∀ t ∈ rowT n L H i f q, t.1 = i
  | 0, q, t, ht => by simp [rowT] at ht
  | f + 1, q, t, ht => by
    unfold rowT at ht
    split at ht
    · rcases List.mem_cons.1 ht with e | e
      · rw [e]
      · exact rowT_fst f (q + 1) t e
    · simp at ht
theorem rowT_sorted {n i : Nat} : ∀ f q, Sorted L (rowT n L H i f q)
  | 0, q => by simp [rowT, Sorted]
  | f + 1, q => by
    unfold rowT
    split
    · exact ⟨fun x hx => by rw [rowT_fst f (q + 1) x hx]; exact Int.le_refl _, rowT_sorted f (q + 1)⟩
    · trivial
theorem allT_fst {n : Nat} : ∀ i, ∀ t ∈ allT n L H i, t.1 < i
  | 0, t, ht => by simp [allT] at ht
  | i + 1, t, ht => by
    unfold allT at ht
    rcases List.mem_append.1 ht with e | e
    · have := allT_fst i t e; omega
    · rw [rowT_fst _ _ t e]; omega
theorem allT_sorted {p : Int} (he : edB p L H m = true) : ∀ i, i ≤ m → Sorted L (allT m L H i)
  | 0, _ => by simp [allT, Sorted]
  | i + 1, hi => by
    unfold allT
    refine sorted_append _ _ (allT_sorted he i (by omega)) (rowT_sorted _ _) (fun x hx y hy => ?_)
    have h1 := allT_fst i x hx
    rw [rowT_fst _ _ y hy]
    have := ed_rise m he i (by omega) x.1 h1
    omega
/-- Behind all triangles each of them is right. -/
theorem runT_ok {s : (Nat → Int) × (Nat → Int)} (hE : ∀ i, i < m → 0 ≤ L i ∧ L i < H i ∧ H i < (k : Int)) : ∀ l : List Tr, (∀ t ∈ l, TOk m L H t) → Sorted L l → ∀ t ∈ l, okT (runT s l).1 (runT s l).2 t := by
  intro l
  induction l generalizing s with
  | nil => intro _ _ t ht; simp at ht
  | cons x l ih =>
    intro h1 h2 t ht
    have e : runT s (x :: l) = runT (stT s x) l := rfl
    rw [e]
    rcases List.mem_cons.1 ht with q | q
    · subst q
      obtain ⟨a1, a2, a3, a4, a5, a6, a7⟩ := h1 t (by simp)
      have fix : ∀ j, j < m → L j = L t.1 → (runT (stT s t) l).1 j = (stT s t).1 j ∧ (runT (stT s t) l).2 j = (stT s t).2 j := fun j hj hL => runT_same l (fun y hy e => by
        obtain ⟨b1, b2, b3, b4, b5, b6, b7⟩ := h1 y (by simp [hy])
        have c1 := h2.1 y hy
        have c2 := hE y.1 b1
        rw [← e] at hL
        omega)
      have g1 := fix t.1 a1 rfl
      have g2 := fix t.2.1 a2 a5
      have g3 := runT_le (s := stT s t) (j := t.2.2) l
      have n1 : t.1 ≠ t.2.2 := fun e => by have := hE t.1 a1; rw [← e] at a6; omega
      have n2 : t.2.1 ≠ t.2.2 := fun e => by have := hE t.1 a1; rw [← e] at a6; omega
      have u1 : (stT s t).1 t.2.1 = s.1 t.2.1 := by show stU s t t.2.1 = _; unfold stU; rw [if_neg n2]
      have u2 : (stT s t).1 t.1 = s.1 t.1 := by show stU s t t.1 = _; unfold stU; rw [if_neg n1]
      have v1 : (stT s t).2 t.1 = s.2 t.1 := by show (if t.1 = t.2.2 then min (s.2 t.2.2) (dnT (stU s t) s.2 t) else s.2 t.1) = _; rw [if_neg n1]
      have v2 : (stT s t).2 t.2.1 = s.2 t.2.1 := by show (if t.2.1 = t.2.2 then min (s.2 t.2.2) (dnT (stU s t) s.2 t) else s.2 t.2.1) = _; rw [if_neg n2]
      have u3 : (stT s t).1 t.2.2 ≤ upT s.1 s.2 t := by show stU s t t.2.2 ≤ _; unfold stU; rw [if_pos rfl]; omega
      have v3 : (stT s t).2 t.2.2 ≤ dnT (stU s t) s.2 t := by show (if t.2.2 = t.2.2 then min (s.2 t.2.2) (dnT (stU s t) s.2 t) else s.2 t.2.2) ≤ _; rw [if_pos rfl]; omega
      have w2 : stU s t t.1 = s.1 t.1 := u2
      unfold okT upT dnT
      unfold upT at u3
      unfold dnT at v3
      rw [w2] at v3
      rw [g1.1, g1.2, g2.1, g2.2, u1, u2, v1, v2]
      omega
    · exact ih (s := stT s x) (fun y hy => h1 y (by simp [hy])) h2.2 t q
end

end Go.Proofs.YtokaechbmnbbiabGreat

/-
  Plain: the way of an edge, as the document unpacks it and as the program's stack does.
-/
set_option linter.unusedVariables false
set_option linter.unusedSimpArgs false
namespace Go.Proofs.YtokaechbmnbbiabGreat

/-- What a way is unpacked from: which ranks have an edge, the weights down and up along it, the places, the arcs' weights. -/
structure Net where
  hs : Nat → Nat → Bool
  D : Nat → Nat → Int
  U : Nat → Nat → Int
  O : Nat → Int
  lw : Int → Int → Int
/-- The ranks that a step leads from and to. -/
def frR (lo hi : Nat) (up : Bool) : Nat := if up = true then lo else hi
def toR (lo hi : Nat) (up : Bool) : Nat := if up = true then hi else lo
def Net.wt (x : Net) (lo hi : Nat) (up : Bool) : Int := if up = true then x.U lo hi else x.D lo hi
def Net.isA (x : Net) (lo hi : Nat) (up : Bool) : Bool := decide (x.lw (x.O (frR lo hi up)) (x.O (toR lo hi up)) = x.wt lo hi up)
def addF (a b : Int) : Int := min 1000000000000 (a + b)
def Net.fit (x : Net) (lo hi : Nat) (up : Bool) (w : Nat) : Bool := (x.hs w (frR lo hi up) && x.hs w (toR lo hi up)) && decide (addF (x.D w (frR lo hi up)) (x.U w (toR lo hi up)) = x.wt lo hi up)
/-- The first rank below over which a step is as long as it is. -/
def Net.fst (x : Net) (lo hi : Nat) (up : Bool) : Option Nat := (List.range lo).find? (x.fit lo hi up)
theorem Net.fst_lt {x : Net} {lo hi w : Nat} {up : Bool} (h : x.fst lo hi up = some w) : w < lo := by
  have := List.mem_of_find?_eq_some h
  simpa using this
theorem Net.fst_fit {x : Net} {lo hi w : Nat} {up : Bool} (h : x.fst lo hi up = some w) : x.fit lo hi up w = true := List.find?_some h
/-- The halves of a step: none where it is an arc of its own, or has none. -/
def Net.half (x : Net) (lo hi : Nat) (up : Bool) : Option Nat := if x.isA lo hi up = true then none else x.fst lo hi up
theorem Net.half_lt {x : Net} {lo hi w : Nat} {up : Bool} (h : x.half lo hi up = some w) : w < lo := by
  unfold Net.half at h
  split at h
  · cases h
  · exact x.fst_lt h
theorem Net.half_fit {x : Net} {lo hi w : Nat} {up : Bool} (h : x.half lo hi up = some w) : x.fit lo hi up w = true := by
  unfold Net.half at h
  split at h
  · cases h
  · exact x.fst_fit h
/-- The places of a step's way, behind its first. -/
def Net.wy (x : Net) (lo hi : Nat) (up : Bool) : List Int :=
  match h : x.half lo hi up with
  | some w => x.wy w (frR lo hi up) false ++ x.wy w (toR lo hi up) true
  | none => [x.O (toR lo hi up)]
termination_by lo
decreasing_by
  · exact x.half_lt h
  · exact x.half_lt h
theorem Net.wy_some {x : Net} {lo hi w : Nat} {up : Bool} (h : x.half lo hi up = some w) : x.wy lo hi up = x.wy w (frR lo hi up) false ++ x.wy w (toR lo hi up) true := by
  rw [Net.wy]
  split
  · next w' h' => rw [h] at h'; cases h'; rfl
  · next h' => rw [h] at h'; cases h'
theorem Net.wy_none {x : Net} {lo hi : Nat} {up : Bool} (h : x.half lo hi up = none) : x.wy lo hi up = [x.O (toR lo hi up)] := by
  rw [Net.wy]
  split
  · next w' h' => rw [h] at h'; cases h'
  · rfl
theorem Net.wy_len (x : Net) : ∀ (lo hi : Nat) (up : Bool), 1 ≤ (x.wy lo hi up).length ∧ (x.wy lo hi up).length ≤ 2 ^ lo := by
  intro lo
  induction lo using Nat.strongRecOn with
  | ind lo ih =>
    intro hi up
    cases h : x.half lo hi up with
    | none =>
      rw [Net.wy_none h]
      exact ⟨by simp, by simpa using Nat.one_le_two_pow⟩
    | some w =>
      rw [Net.wy_some h]
      have hw := x.half_lt h
      have h1 := ih w hw (frR lo hi up) false
      have h2 := ih w hw (toR lo hi up) true
      have h3 : 2 ^ (w + 1) ≤ 2 ^ lo := Nat.pow_le_pow_right (by omega) (by omega)
      rw [Nat.pow_succ] at h3
      simp only [List.length_append]
      omega
/-- A stack of steps, the last on top: the places that are still to come, and how much is still to do. -/
def Net.rest (x : Net) : List (Nat × Nat × Bool) → List Int
  | [] => []
  | s :: st => x.wy s.1 s.2.1 s.2.2 ++ x.rest st
def Net.todo (x : Net) : List (Nat × Nat × Bool) → Nat
  | [] => 0
  | s :: st => (2 * (x.wy s.1 s.2.1 s.2.2).length - 1) + x.todo st
theorem Net.rest_some {x : Net} {lo hi w : Nat} {up : Bool} {st : List (Nat × Nat × Bool)} (h : x.half lo hi up = some w) : x.rest ((lo, hi, up) :: st) = x.rest ((w, frR lo hi up, false) :: (w, toR lo hi up, true) :: st) := by
  simp [Net.rest, Net.wy_some h]
theorem Net.rest_none {x : Net} {lo hi : Nat} {up : Bool} {st : List (Nat × Nat × Bool)} (h : x.half lo hi up = none) : x.rest ((lo, hi, up) :: st) = x.O (toR lo hi up) :: x.rest st := by
  simp [Net.rest, Net.wy_none h]
theorem Net.todo_some {x : Net} {lo hi w : Nat} {up : Bool} {st : List (Nat × Nat × Bool)} (h : x.half lo hi up = some w) : x.todo ((w, frR lo hi up, false) :: (w, toR lo hi up, true) :: st) < x.todo ((lo, hi, up) :: st) := by
  have h1 := (x.wy_len w (frR lo hi up) false).1
  have h2 := (x.wy_len w (toR lo hi up) true).1
  simp only [Net.todo, Net.wy_some h, List.length_append]
  omega
theorem Net.todo_none {x : Net} {lo hi : Nat} {up : Bool} {st : List (Nat × Nat × Bool)} (h : x.half lo hi up = none) : x.todo st < x.todo ((lo, hi, up) :: st) := by
  simp only [Net.todo, Net.wy_none h, List.length_singleton]
  omega
/-- Where a step is less than far, so are its halves. -/
theorem addF_lt {a b c : Int} (h : addF a b = c) (hc : c < 1000000000000) (ha : 0 ≤ a) (hb : 0 ≤ b) : a < 1000000000000 ∧ b < 1000000000000 := by
  unfold addF at h
  omega
/-- Where the search of a first rank stands. -/
theorem Net.fst_step {x : Net} {lo hi : Nat} {up : Bool} {w : Nat} (hw : w < lo) (hno : ∀ v, v < w → x.fit lo hi up v = false) (hy : x.fit lo hi up w = true) : x.fst lo hi up = some w := by
  unfold Net.fst
  rw [List.find?_eq_some_iff_getElem]
  refine ⟨hy, w, by simpa using hw, by simp, fun j hj => ?_⟩
  simp [hno j hj]
theorem Net.fst_end {x : Net} {lo hi : Nat} {up : Bool} (hno : ∀ v, v < lo → x.fit lo hi up v = false) : x.fst lo hi up = none := by
  unfold Net.fst
  rw [List.find?_eq_none]
  intro v hv
  simp only [List.mem_range] at hv
  simp [hno v hv]

end Go.Proofs.YtokaechbmnbbiabGreat

/-
  A list of numbers of the call's own, told as a list, that grows by many.
-/
set_option linter.unusedVariables false
set_option linter.unusedSimpArgs false
namespace Go.Proofs.YtokaechbmnbbiabGreat
open Go.RowKit Go.Deep

def lcells (l : List Int) : List Value := l.map (.int .i64 ·)
/-- A list of numbers behind a slice of the call's own. -/
def LOwn (w : World) (base : Nat) (go : Option Addr) (cap : Nat) (l : List Int) : Prop := w.ownsRow base 2 1 (.slice go l.length cap) l.length (lcells l)
theorem lcells_icells (l : List Int) : lcells l = icells (fun j => l.getD j 0) l.length := by
  apply List.ext_getElem?
  intro j
  by_cases hj : j < l.length
  · rw [icells_at hj]
    simp [lcells, hj]
  · rw [List.getElem?_eq_none (by simp [lcells]; omega), List.getElem?_eq_none (by simp [icells]; omega)]
theorem LOwn.ownE {w : World} {base cap : Nat} {go : Option Addr} {l : List Int} (h : LOwn w base go cap l) : OwnE w base go l.length cap (fun j => l.getD j 0) := by
  unfold LOwn at h
  rw [lcells_icells] at h
  exact h
theorem LOwn.of_ownE {w : World} {base cap : Nat} {go : Option Addr} {l : List Int} (h : OwnE w base go l.length cap (fun j => l.getD j 0)) : LOwn w base go cap l := by
  unfold LOwn
  rw [lcells_icells]
  exact h
theorem LOwn.next {w w' : World} {base cap : Nat} {go : Option Addr} {l : List Int} (h : LOwn w base go cap l) (hb : Below w.heap.size w w') : LOwn w' base go cap l := .of_ownE (h.ownE.next hb)
theorem LOwn.at {w : World} {base cap x : Nat} {go : Option Addr} {l : List Int} (h : LOwn w base go cap l) (e : (Value.slice go l.length cap).ownBlock = some x) : base ≤ x ∧ x < w.heap.size := World.ownsRow.lt h x e
theorem LOwn.from {w : World} {base base' cap : Nat} {go : Option Addr} {l : List Int} (h : LOwn w base go cap l) (hb : base' ≤ base) : LOwn w base' go cap l := by
  obtain ⟨hl, h0 | ⟨g', cap', cur, hv, hb', rest⟩⟩ := h
  · exact ⟨hl, .inl h0⟩
  · exact ⟨hl, .inr ⟨g', cap', cur, hv, Nat.le_trans hb hb', rest⟩⟩
theorem LOwn.grown {w w' : World} {base cap : Nat} {go : Option Addr} {l : List Int} {row : Option Nat} (h : LOwn w base go cap l) (hg : w.grownBy w' row) (hne : ∀ x, (Value.slice go l.length cap).ownBlock = some x → row ≠ some x) : LOwn w' base go cap l := .of_ownE (h.ownE.grown hg hne)
/-- Its cells. -/
theorem LOwn.cells {w : World} {base cap : Nat} {go : Option Addr} {l : List Int} (h : LOwn w base go cap l) (hl : 0 < l.length) : ∃ g, go = some ⟨g, 0, none⟩ ∧ base ≤ g ∧ g < w.heap.size ∧ ∀ j u, l[j]? = some u → w.cell? ⟨g, j, none⟩ = some (.int .i64 u) := by
  obtain ⟨g, e, hb, hh⟩ := h.ownE.has hl
  refine ⟨g, e, hb, hh.lt, fun j u hu => ?_⟩
  have hj : j < l.length := (List.getElem?_eq_some_iff.1 hu).1
  have := hh.cell hj
  rw [this]
  simp [List.getD_eq_getElem?_getD, hu]
theorem LOwn.cap {w : World} {base g cap : Nat} {l : List Int} (h : LOwn w base (some ⟨g, 0, none⟩) cap l) : l.length ≤ cap := by
  rcases h.2 with ⟨e, _⟩ | ⟨g', cap', cur, e, _, _, h2, _⟩
  · cases e
  · simp only [Value.slice.injEq, Option.some.injEq, Addr.mk.injEq, and_true, true_and] at e
    obtain ⟨rfl, rfl⟩ := e
    exact h2
theorem wp_appL {o : Oper} {a : Act} {w : World} {K : Act → World → Prop} {Q : Exit → Act → World → Prop} (s x : Operand)
    (ho : o.op = .call { callee := .builtin .append, args := #[s, x], argTypes := #[27, 27] }) (d : Nat) (hd : o.dst = some d) (base gc : Nat) (go : Option Addr) (l l2 : List Int) (hs : a.eval s = .slice go l.length gc) (hown : LOwn w base go gc l) (b i m c : Nat) (hm : l2.length = m) (hx : a.eval x = .slice (some ⟨b, i, none⟩) m c)
    (h0 : ∀ j u, l2[j]? = some u → w.cell? ⟨b, i + j, none⟩ = some (.int .i64 u)) (hk0 : 0 < m) (hk : l.length ≤ 1000000000) (hk2 : m ≤ 1000000000) (hbase : base ≤ w.heap.size)
    (h : ∀ g' gc' w', LOwn w' base (some ⟨g', 0, none⟩) gc' (l ++ l2) → w.grownBy w' (Value.slice go l.length gc).ownBlock → ((Value.slice go l.length gc).ownBlock = some g' ∨ g' = w.heap.size) → K (a.put (some d) (.slice (some ⟨g', 0, none⟩) (l.length + m) gc')) w') : o.wp Tryz.prog a w K Q := by
  obtain ⟨i0, hi0, hz0, hz1, hz2⟩ := info_parts Tryz.infoInt
  subst hm
  refine wp_append_lies w s x 27 ho base 2 i0 _ 1 8 Tryz.underlying27 hi0 hz0 hz1 hz2 rfl (by omega) _ l.length (lcells l) hs hown ⟨b, i, none⟩ l2.length c (lcells l2) hx (by simp [lcells]) ?_ ?_ hk0 (by unfold maxLen; omega) (by omega) hbase w.heap.size rfl ?_
  · intro j u hu
    simp only [lcells, List.getElem?_map, Option.map_eq_some_iff] at hu
    obtain ⟨v, hv, rfl⟩ := hu
    have : (⟨b, i, none⟩ : Addr).add j = ⟨b, i + j, none⟩ := by unfold Addr.add; split <;> simp_all
    rw [this]
    exact h0 j v hv
  · intro u hu
    simp [lcells] at hu
    obtain ⟨j, _, rfl⟩ := hu
    rfl
  · intro g' gc' w' hown' hgrow hat _
    have e : lcells l ++ lcells l2 = lcells (l ++ l2) := by simp [lcells]
    rw [e] at hown'
    rw [hd]
    exact h g' gc' w' (by unfold LOwn; rw [List.length_append]; exact hown') hgrow hat

end Go.Proofs.YtokaechbmnbbiabGreat

/-
  The document's l7Unpack.
-/
set_option linter.unusedVariables false
set_option linter.unusedSimpArgs false
namespace Go.Proofs.YtokaechbmnbbiabGreat
open Go.RowKit
attribute [local go_sem ↓] Go.wp_at_zero Go.wp_at_succ

def hsB (m : Nat) (L H : Nat → Int) (a b : Int) : Bool := decide (fnd L H a b m < m ∧ L (fnd L H a b m) = a ∧ H (fnd L H a b m) = b)
theorem hsB_iff {m : Nat} {L H : Nat → Int} {a b : Int} : hsB m L H a b = true ↔ Hs m L H a b := by
  unfold hsB
  rw [decide_eq_true_eq]
  exact ⟨fun h => ⟨_, h⟩, fun h => fnd_at m h⟩
/-- What a way is unpacked from, of a map, an order, edges and a metric. -/
def netOf (n : Nat) (F T G P : Nat → Int) (m : Nat) (L H U V : Nat → Int) : Net :=
  { hs := fun a b => hsB m L H a b, D := fun a b => V (fnd L H a b m), U := fun a b => U (fnd L H a b m), O := P, lw := fun a b => lastW F T G a b n }
theorem l4Find_net {p : Int} {L H : Nat → Int} {m : Nat} (hE : edB p L H m = true) (eo : Option Addr) (ecap : Nat) (a b : Int) (hm : m ≤ 1048576) (w : World) (hr : ERow w eo m L H) :
    Calls Tryz.prog 54 #[.slice eo m ecap, .int .i64 a, .int .i64 b] w fun e w' => ∃ r : Int, e = .returned (.int .i64 r) ∧ (hsB m L H a b = true → r = (fnd L H a b m : Int) ∧ fnd L H a b m < m) ∧ (hsB m L H a b = false → r < 0) ∧ Below w.heap.size w w' := by
  cases h : hsB m L H a b with
  | true =>
    have hf := fnd_at m (hsB_iff.1 h)
    exact (l4Find_is eo m ecap L H a b (fnd L H a b m) hf.1 hf.2.1 hf.2.2 (fun j hj h1 h2 => (fnd_is hE hj h1 h2).symm) hm w hr).mono fun e w' ⟨h1, h2⟩ => ⟨_, h1, fun _ => ⟨rfl, hf.1⟩, fun h => (by cases h), h2⟩
  | false =>
    exact (l4Find_any eo m ecap L H a b hm w hr).mono fun e w' ⟨r, h1, h2, h3⟩ => ⟨r, h1, fun h => (by cases h), fun _ => h2.2 (fun hs => by rw [hsB_iff.2 hs] at h; cases h), h3⟩
/-- Where a map, an order, edges and a metric lie. -/
structure NRows (w : World) (ao : Option Addr) (n : Nat) (F T G : Nat → Int) (po : Option Addr) (k : Nat) (P : Nat → Int) (eo : Option Addr) (m : Nat) (L H : Nat → Int) (uo : Option Addr) (U : Nat → Int) (vo : Option Addr) (V : Nat → Int) : Prop where
  arcs : Row w ao n F T G
  ord : IRow w po k P
  eds : ERow w eo m L H
  up : IRow w uo m U
  dn : IRow w vo m V
theorem NRows.below {w w' : World} {B : Nat} {ao : Option Addr} {n : Nat} {F T G : Nat → Int} {po : Option Addr} {k : Nat} {P : Nat → Int} {eo : Option Addr} {m : Nat} {L H : Nat → Int} {uo : Option Addr} {U : Nat → Int} {vo : Option Addr} {V : Nat → Int} (h : NRows w ao n F T G po k P eo m L H uo U vo V) (hb : Below B w w') (hB : w.heap.size ≤ B) : NRows w' ao n F T G po k P eo m L H uo U vo V :=
  ⟨h.arcs.below hb hB, h.ord.below hb hB, h.eds.below hb hB, h.up.below hb hB, h.dn.below hb hB⟩

theorem lown_lit2 (w : World) {base : Nat} (a b : Int) (hb : base ≤ w.heap.size) : LOwn (w.alloc (.cells #[.int .i64 a, .int .i64 b] 2)) base (some ⟨w.heap.size, 0, none⟩) 2 [a, b] := by
  have := World.ownsRow_lit (base := base) (e := 2) (size := 1) w #[.int .i64 a, .int .i64 b] 2 hb (by unfold maxLen; omega) rfl
  simpa [LOwn, lcells] using this
/-- The boxes of the three arguments, in a later world. -/
structure U3 (w W : World) (p : Int) (ao : Option Addr) (n cap : Nat) (po : Option Addr) (k pcap : Nat) (eo : Option Addr) (m ecap : Nat) (uo : Option Addr) (ucap : Nat) (vo : Option Addr) (vcap : Nat) : Prop where
  bel : Below w.heap.size w W
  g0 : W.cell? ⟨w.heap.size, 0, none⟩ = some (.int .i64 p)
  g1 : W.cell? ⟨w.heap.size, 1, none⟩ = some (.slice ao n cap)
  h0 : W.cell? ⟨w.heap.size + 1, 0, none⟩ = some (.slice po k pcap)
  h1 : W.cell? ⟨w.heap.size + 1, 1, none⟩ = some (.slice eo m ecap)
  m0 : W.cell? ⟨w.heap.size + 2, 0, none⟩ = some (.slice uo m ucap)
  m1 : W.cell? ⟨w.heap.size + 2, 1, none⟩ = some (.slice vo m vcap)
  sz : w.heap.size + 3 ≤ W.heap.size
theorem u3_new (w : World) {p : Int} {ao : Option Addr} {n cap : Nat} {po : Option Addr} {k pcap : Nat} {eo : Option Addr} {m ecap : Nat} {uo : Option Addr} {ucap : Nat} {vo : Option Addr} {vcap : Nat} : U3 w (((w.alloc (.cells #[.int .i64 p, .slice ao n cap] 26)).alloc (.cells #[.slice po k pcap, .slice eo m ecap] 30)).alloc (.cells #[.slice uo m ucap, .slice vo m vcap] 34)) p ao n cap po k pcap eo m ecap uo ucap vo vcap :=
  ⟨(((Below.refl _ _).alloc (Nat.le_refl _) _).alloc (by simp) _).alloc (by simp; omega) _, by simp [go_sem], by simp [go_sem], by simp [go_sem], by simp [go_sem], by simp [go_sem], by simp [go_sem], by simp⟩
theorem U3.next {w W W' : World} {p : Int} {ao : Option Addr} {n cap : Nat} {po : Option Addr} {k pcap : Nat} {eo : Option Addr} {m ecap : Nat} {uo : Option Addr} {ucap : Nat} {vo : Option Addr} {vcap : Nat} (h : U3 w W p ao n cap po k pcap eo m ecap uo ucap vo vcap) (hb : Below W.heap.size W W') : U3 w W' p ao n cap po k pcap eo m ecap uo ucap vo vcap :=
  ⟨below_next h.bel (Nat.le_refl _) hb, keep_cell hb (Nat.le_refl _) h.g0, keep_cell hb (Nat.le_refl _) h.g1, keep_cell hb (Nat.le_refl _) h.h0, keep_cell hb (Nat.le_refl _) h.h1, keep_cell hb (Nat.le_refl _) h.m0, keep_cell hb (Nat.le_refl _) h.m1, Nat.le_trans h.sz hb.size⟩

end Go.Proofs.YtokaechbmnbbiabGreat

/-
  The program's map of arc numbers, walked: it holds the number of each arc at its ends.
-/
set_option linter.unusedVariables false
set_option linter.unusedSimpArgs false
namespace Go.Proofs.YtokaechbmnbbiabGreat
open Go.RowKit Go.Maps

set_option maxHeartbeats 1000000 in
theorem arcNumbers_any (p : Int) (ao : Option Addr) (n cap : Nat) (F T G : Nat → Int) (hn : n ≤ 1048576) (hwf : WfTo F T n) (w : World) (hr : Row w ao n F T G) :
    Calls Tryz.prog 79 #[.agg #[.int .i64 p, .slice ao n cap]] w fun e w' => e = .returned (.map (some (w.heap.size + 1))) ∧ w'.ownsMap Tryz.prog 113 (plainElem Tryz.prog 3) (w.heap.size + 1) n (nums F T n) ∧ Below w.heap.size w w' := by
  have hmk := make_map n
  go_enter Tryz.func79, Tryz.ntmps79
  go_wp2
  clear hmk
  go_loopw [13] (fun i wr => ∃ k : Nat, k ≤ n ∧ i = .int .i64 k ∧ wr.ownsMap Tryz.prog 113 (plainElem Tryz.prog 3) (w.heap.size + 1) k (nums F T k) ∧ Below (w.heap.size + 1) (w.alloc (.cells #[.int .i64 p, .slice ao n cap] 26)) wr) (fun i _ => n - (intOf i).toNat)
  case atStart => exact ⟨0, Nat.zero_le _, rfl, by simpa [nums] using World.ownsMap_made (w.alloc (.cells #[.int .i64 p, .slice ao n cap] 26)) Tryz.prog 113 (plainElem (H := Unit) Tryz.prog 3), (Below.refl _ _).alloc (by simp) _⟩
  case round =>
    obtain ⟨k, hk, rfl, hown, hbel⟩ := hrel
    have hsz : w.heap.size + 1 < wr.heap.size := hown.lt
    by_cases hlt : k < n
    rotate_left
    · have hkn : k = n := by omega
      subst hkn
      go_wp2
      go_ret
      exact ⟨rfl, hown, unbox hbel (by omega)⟩
    obtain ⟨b, o, hao, c0, c1, c2⟩ := ((hr.alloc _).below hbel (by simp)) k hlt
    subst hao
    have hkey := key_ends (F k) (T k) (hwf k hlt).1 (hwf k hlt).2
    go_wp2_with (first | (go_at_call 96; refine (endsOf_any _ _ _ _).mono ?_; rintro e w1 ⟨rfl, hb1⟩; have hown1 := ownsMap_below (hown.alloc _) hb1) | (at_mapUpdate; refine wpList_mapUpdate_own _ rfl _ _ _ 96 rfl 113 3 Tryz.keyLaw Tryz.underlying96 _ (w.heap.size + 1) k _ rfl hown1 (by unfold maxLen; omega) _ _ _ rfl rfl hkey _ [] (plainElem_int Tryz.underlying3 (WalkArith.wf_i64 (by omega))) ?_; intro w2 hown2 hgrow2))
    go_wp2
    go_roundw
    case rel => exact ⟨k + 1, by omega, by go_num, hown2, (below_next (hbel.alloc (by omega) _) (by simp) hb1).grown hgrow2 (by have := hb1.size; simp at this; omega) (fun j hj => by cases hj; exact Nat.le_refl _)⟩
    case measure => simp [intOf]; omega

end Go.Proofs.YtokaechbmnbbiabGreat

/-
  Two lists of numbers held against each other, the document's way and the program's: of metrics.
-/
set_option linter.unusedVariables false
set_option linter.unusedSimpArgs false
namespace Go.Proofs.YtokaechbmnbbiabGreat
open Go.RowKit Go.Deep Go.Joins
attribute [local go_sem ↓] Go.wp_at_zero Go.wp_at_succ

/-- Two lists of numbers are the same. -/
def SameI (n m : Nat) (f g : Nat → Int) : Prop := n = m ∧ ∀ i, i < n → f i = g i
set_option maxHeartbeats 1000000 in
theorem equalI_any (ao ao' : Option Addr) (n m cap cap' : Nat) (f g : Nat → Int) (hn : n ≤ 1048576) (hm : m ≤ 1048576) (w : World) (hr : IRow w ao n f) (hr' : IRow w ao' m g) :
    Calls Tryz.prog 108 #[.slice ao n cap, .slice ao' m cap'] w fun e w' => BAns e (SameI n m f g) ∧ Below w.heap.size w w' := by
  by_cases hnm : n = m
  rotate_left
  · have HN : Hid (¬ SameI n m f g) := fun h => hnm h.1
    have hnm' : ¬ (n : Int) = (m : Int) := by omega
    go_enter Tryz.func108, Tryz.ntmps108
    go_wp2
    go_ret
    exact ⟨bans_no HN.out, Below.refl _ _⟩
  subst hnm
  go_enter Tryz.func108, Tryz.ntmps108
  go_wp2
  go_loopw [13] (fun x wr => ∃ k : Nat, k ≤ n ∧ x = .int .i64 k ∧ (∀ i, i < k → f i = g i) ∧ Below w.heap.size w wr) (fun x _ => n - (intOf x).toNat)
  case atStart => exact ⟨0, Nat.zero_le _, rfl, fun i hi => by omega, Below.refl _ _⟩
  case round =>
    obtain ⟨k, hk, rfl, hall, hbel⟩ := hrel
    have HA : Hid (∀ i, i < k → f i = g i) := hall
    clear hall
    by_cases hlt : k < n
    rotate_left
    · have hkn : k = n := by omega
      subst hkn
      go_wp2
      go_ret
      exact ⟨bans_yes ⟨rfl, HA.out⟩, hbel⟩
    obtain ⟨b, o, hao, c0⟩ := (hr.below hbel (Nat.le_refl _)) k hlt
    subst hao
    obtain ⟨b', o', hao', d0⟩ := (hr'.below hbel (Nat.le_refl _)) k hlt
    subst hao'
    have hk1 : (0 : Int) ≤ (k : Int) := by omega
    have hk2 : (k : Int) < (n : Int) := by omega
    by_cases he : f k = g k
    · have HE : Hid (f k = g k) := he
      rw [← he] at d0
      clear he
      go_wp2
      (try go_quiet (fail))
      go_wp2
      go_roundw
      case rel => exact ⟨k + 1, by omega, by go_num, fun i hi => by
        by_cases x : i = k
        · subst x; exact HE.out
        · exact HA.out i (by omega), by first | exact below_drewN hbel _ | exact hbel⟩
      case measure => simp [intOf]; omega
    · have HE : Hid (¬ SameI n n f g) := fun h => he (h.2 k hlt)
      go_wp2
      (try go_quiet (fail))
      go_wp2
      go_ret
      exact ⟨bans_no HE.out, by first | exact below_drewN hbel _ | exact hbel⟩

set_option maxHeartbeats 2000000 in
theorem sameMetric_any (ao : Option Addr) (n acap : Nat) (f : Nat → Int) (bo : Option Addr) (m bcap : Nat) (g : Nat → Int) (co : Option Addr) (u ccap : Nat) (f' : Nat → Int) (dO : Option Addr) (v dcap : Nat) (g' : Nat → Int) (hn : n ≤ 1048576) (hm : m ≤ 1048576) (hu : u ≤ 1048576) (hv : v ≤ 1048576) (w : World) (ha : IRow w ao n f) (hb : IRow w bo m g) (hc : IRow w co u f') (hd : IRow w dO v g') :
    Calls Tryz.prog 58 #[.agg #[.slice ao n acap, .slice bo m bcap], .agg #[.slice co u ccap, .slice dO v dcap]] w fun e w' => BAns e (SameI n u f f' ∧ SameI m v g g') ∧ Below w.heap.size w w' := by
  have hB0 : Below w.heap.size w ((w.alloc (.cells #[.slice ao n acap, .slice bo m bcap] 34)).alloc (.cells #[.slice co u ccap, .slice dO v dcap] 34)) := ((Below.refl _ w).alloc (Nat.le_refl _) _).alloc (by simp) _
  have q1 : ((w.alloc (.cells #[.slice ao n acap, .slice bo m bcap] 34)).alloc (.cells #[.slice co u ccap, .slice dO v dcap] 34)).cell? ⟨w.heap.size, 1, none⟩ = some (.slice bo m bcap) := by simp [go_sem]
  have q3 : ((w.alloc (.cells #[.slice ao n acap, .slice bo m bcap] 34)).alloc (.cells #[.slice co u ccap, .slice dO v dcap] 34)).cell? ⟨w.heap.size + 1, 1, none⟩ = some (.slice dO v dcap) := by simp [go_sem]
  go_enter Tryz.func58, Tryz.ntmps58
  go_wp2_with fail
  refine (equalI_any ao co n u acap ccap f f' hn hu _ (ha.below hB0 (Nat.le_refl _)) (hc.below hB0 (Nat.le_refl _))).mono ?_
  rintro e w1 ⟨⟨x, rfl, hx⟩, hb1⟩
  replace q1 := keep_cell hb1 (Nat.le_refl _) q1
  replace q3 := keep_cell hb1 (Nat.le_refl _) q3
  have hB1 := below_next hB0 (Nat.le_refl _) hb1
  clear hb1 hB0
  cases x
  · have HN : Hid (¬ (SameI n u f f' ∧ SameI m v g g')) := fun y => by have := hx.2 y.1; cases this
    clear hx
    go_wp2
    go_ret
    exact ⟨bans_no HN.out, hB1⟩
  have HY : Hid (SameI n u f f') := hx.1 rfl
  clear hx
  go_wp2_with fail
  refine (equalI_any bo dO m v bcap dcap g g' hm hv _ (hb.below hB1 (Nat.le_refl _)) (hd.below hB1 (Nat.le_refl _))).mono ?_
  rintro e w2 ⟨⟨x, rfl, hx⟩, hb2⟩
  have hB2 := below_next hB1 (Nat.le_refl _) hb2
  clear hb2 hB1
  go_wp2
  go_ret
  exact ⟨⟨x, rfl, hx.trans ⟨fun h => ⟨HY.out, h⟩, fun h => h.2⟩⟩, hB2⟩

end Go.Proofs.YtokaechbmnbbiabGreat

/-
  A region that draws its order, taken by hand: two operations that are ready; an operation that yields, makes or stores.
-/
set_option linter.unusedVariables false
set_option linter.unusedSimpArgs false
namespace Go.Proofs.YtokaechbmnbbiabGreat
open Go

theorem wp_of_run {P : Program} {o : Oper} {a : Act} {w : World} {K : Act → World → Prop} {Q : Exit → Act → World → Prop} {v : Value} (h : (execOp a.eval o).run P w = .ok (.value v) w) (hK : K (a.put o.dst v) w) : o.wp P a w K Q := by
  unfold Oper.wp
  rw [h]
  exact hK
theorem wp_of_skip {P : Program} {o : Oper} {a : Act} {w w' : World} {K : Act → World → Prop} {Q : Exit → Act → World → Prop} (h : (execOp a.eval o).run P w = .ok .skip w') (hK : K (a.put o.dst undef) w') : o.wp P a w K Q := by
  unfold Oper.wp
  rw [h]
  exact hK
theorem wp_of_made {P : Program} {o : Oper} {a : Act} {w w' : World} {K : Act → World → Prop} {Q : Exit → Act → World → Prop} {v : Value} (h : (execOp a.eval o).run P w = .ok (.value v) w') (hK : K (a.put o.dst v) w') : o.wp P a w K Q := by
  unfold Oper.wp
  rw [h]
  exact hK
/-- Two operations that are ready: either may come first. -/
theorem step2H {P : Program} {ops : Array Oper} {Q : Exit → Act → World → Prop} {md : Region.Mode} {S : World → Prop} (i j : Nat) (oi oj : Oper) {fuel : Nat} {listed : Array Bool} {a : Act} {w : World} (hi : ops[i]? = some oi) (hj : ops[j]? = some oj) (hr : Region.ready md ops listed = [i, j])
    (hwi : Region.wanted oi (yielded ops a.tmps) = true) (hwj : Region.wanted oj (yielded ops a.tmps) = true)
    (h1 : Oper.wp P oi a w (fun a' w' => S w' ∧ wpAnyH P md ops Q S fuel (listed.setIfInBounds i true) a' w') Q) (h2 : Oper.wp P oj a w (fun a' w' => S w' ∧ wpAnyH P md ops Q S fuel (listed.setIfInBounds j true) a' w') Q) : wpAnyH P md ops Q S (fuel + 1) listed a w :=
  wpAnyH_ready hr (by simp) (AllReadyH.cons hi (fun K hK => by rw [if_pos hwi]; exact Oper.wp_mono (fun a' w' h' => hK.out _ _ h'.1 (fun _ => h'.2)) h1) (AllReadyH.cons hj (fun K hK => by rw [if_pos hwj]; exact Oper.wp_mono (fun a' w' h' => hK.out _ _ h'.1 (fun _ => h'.2)) h2) AllReadyH.nil))

end Go.Proofs.YtokaechbmnbbiabGreat

/-
  The program's room where weights are worked out: made, cleared, weighed, handed out.
-/
set_option linter.unusedVariables false
set_option linter.unusedSimpArgs false
namespace Go.Proofs.YtokaechbmnbbiabGreat
open Go.RowKit Go.Deep Go.Joins Go.Maps
attribute [local go_sem ↓] Go.wp_at_zero Go.wp_at_succ

theorem alloc_b (X : World) (o : Obj) : Below X.heap.size X (X.alloc o) := (Below.refl _ _).alloc (Nat.le_refl _) o
theorem hid_alloc {w X : World} (h : Hid (Below w.heap.size w X)) (o : Obj) : Hid (Below w.heap.size w (X.alloc o)) := h.out.alloc h.out.size o
theorem hid_next {w X Y : World} (h : Hid (Below w.heap.size w X)) (hb : Below X.heap.size X Y) : Hid (Below w.heap.size w Y) := below_next h.out (Nat.le_refl _) hb

theorem IHas.al {X : World} {b n : Nat} {f : Nat → Int} (h : IHas X b n f) (o : Obj) : IHas (X.alloc o) b n f := h.below (alloc_b X o) h.lt
theorem IHas.nx {X Y : World} {b n : Nat} {f : Nat → Int} (h : IHas X b n f) (hb : Below X.heap.size X Y) : IHas Y b n f := h.below hb h.lt
theorem made_at (A : World) (b m : Nat) (h : b = A.heap.size) : IHas (A.alloc (.cells (madeCells #[.int .i64 0] m) 2)) b m (fun _ => 0) := by
  subst h; exact made_ints A m
abbrev OMap (W : World) (b m : Nat) (L H : Nat → Int) : Prop := W.ownsMap Tryz.prog 62 (plainElem (H := Unit) Tryz.prog 3) b m (enums L H m)
theorem omap_nx {X Y : World} {b m : Nat} {L H : Nat → Int} (h : OMap X b m L H) (hb : Below X.heap.size X Y) : OMap Y b m L H := ownsMap_block h (hb.block b (World.ownsMap.lt h))
theorem omap_al {X : World} {b m : Nat} {L H : Nat → Int} (h : OMap X b m L H) (o : Obj) : OMap (X.alloc o) b m L H := omap_nx h (alloc_b X o)

/-- The cells of the room. -/
def rmc (eo : Option Addr) (m ecap g k rcap bm bU bV : Nat) : Array Value := #[.slice eo m ecap, .slice (some ⟨g, 0, none⟩) k rcap, .map (some bm), .slice (some ⟨bU, 0, none⟩) m m, .slice (some ⟨bV, 0, none⟩) m m]
/-- The room in block b: its edges, its ranks, its numbers, the two lists. -/
structure Room (w : World) (k : Nat) (P : Nat → Int) (eo : Option Addr) (m ecap : Nat) (L H : Nat → Int) (b g rcap bm bU bV : Nat) (U V : Nat → Int) (W : World) : Prop where
  bel : Below w.heap.size w W
  box : W.heap[b]? = some (.cells (rmc eo m ecap g k rcap bm bU bV) 86 (0, 0))
  rks : IHas W g k (rk P (-1) k)
  nos : OMap W bm m L H
  up : IHas W bU m U
  dn : IHas W bV m V
  ge : w.heap.size ≤ b ∧ w.heap.size ≤ g ∧ w.heap.size ≤ bm ∧ w.heap.size ≤ bU ∧ w.heap.size ≤ bV
  ne : bU ≠ bV ∧ g ≠ bU ∧ g ≠ bV ∧ b ≠ bU ∧ b ≠ bV ∧ bm ≠ bU ∧ bm ≠ bV
section
variable {w : World} {k : Nat} {P : Nat → Int} {eo : Option Addr} {m ecap : Nat} {L H : Nat → Int} {b g rcap bm bU bV : Nat} {U V : Nat → Int} {W W' : World}
theorem Room.next (h : Room w k P eo m ecap L H b g rcap bm bU bV U V W) (hb : Below W.heap.size W W') : Room w k P eo m ecap L H b g rcap bm bU bV U V W' :=
  ⟨below_next h.bel (Nat.le_refl _) hb, (hb.block b (Array.getElem?_eq_some_iff.1 h.box).1).trans h.box, h.rks.nx hb, omap_nx h.nos hb, h.up.nx hb, h.dn.nx hb, h.ge, h.ne⟩
theorem Room.cell (h : Room w k P eo m ecap L H b g rcap bm bU bV U V W) {j : Nat} {v : Value} (hv : (rmc eo m ecap g k rcap bm bU bV)[j]? = some v) : W.cell? ⟨b, j, none⟩ = some v := by
  rw [cell_of_row W b j _ _ _ h.box]; exact hv
/-- A step that turns the list upward alone. -/
theorem Room.turnU (h : Room w k P eo m ecap L H b g rcap bm bU bV U V W) {U' : Nat → Int} (hg : W.grownBy W' (some bU)) (hU : IHas W' bU m U') : Room w k P eo m ecap L H b g rcap bm bU bV U' V W' := by
  obtain ⟨n1, n2, n3, n4, n5, n6, n7⟩ := h.ne
  exact ⟨below_far (B := w.heap.size) h.bel hg (fun x e => by cases e; exact h.ge.2.2.2.1) (Nat.le_refl _), (hg.block b (Array.getElem?_eq_some_iff.1 h.box).1 (by simp; exact n4)).trans h.box, h.rks.grown hg (by simp; exact n2), World.ownsMap.kept h.nos hg (by simp; exact n6), hU, h.dn.grown hg (by simp; exact fun e => n1 e.symm), h.ge, h.ne⟩
theorem Room.turnD (h : Room w k P eo m ecap L H b g rcap bm bU bV U V W) {V' : Nat → Int} (hg : W.grownBy W' (some bV)) (hV : IHas W' bV m V') : Room w k P eo m ecap L H b g rcap bm bU bV U V' W' := by
  obtain ⟨n1, n2, n3, n4, n5, n6, n7⟩ := h.ne
  exact ⟨below_far (B := w.heap.size) h.bel hg (fun x e => by cases e; exact h.ge.2.2.2.2) (Nat.le_refl _), (hg.block b (Array.getElem?_eq_some_iff.1 h.box).1 (by simp; exact n5)).trans h.box, h.rks.grown hg (by simp; exact n3), World.ownsMap.kept h.nos hg (by simp; exact n7), h.up.grown hg (by simp; exact n1), hV, h.ge, h.ne⟩
theorem Room.congr (h : Room w k P eo m ecap L H b g rcap bm bU bV U V W) {U' V' : Nat → Int} (h1 : ∀ j, j < m → U j = U' j) (h2 : ∀ j, j < m → V j = V' j) : Room w k P eo m ecap L H b g rcap bm bU bV U' V' W :=
  ⟨h.bel, h.box, h.rks, h.nos, h.up.congr h1, h.dn.congr h2, h.ge, h.ne⟩
end
theorem box_at (X : World) (b : Nat) (c : Array Value) (h : b = X.heap.size) : (X.alloc (.cells c 86)).heap[b]? = some (.cells c 86 (0, 0)) := by
  subst h; exact heap_alloc_new X _

set_option maxRecDepth 100000 in
set_option maxHeartbeats 8000000 in
theorem newWorkroom_any (po : Option Addr) (k pcap : Nat) (P : Nat → Int) (eo : Option Addr) (m ecap : Nat) (L H : Nat → Int) (hk : k ≤ 1048576) (hm : m ≤ 1048576) (hok : okR k P = true) (hwf : EWf L H m) (w : World) (hp : IRow w po k P) (he : ERow w eo m L H) :
    Calls Tryz.prog 29 #[.agg #[.slice po k pcap, .slice eo m ecap]] w fun e w' => ∃ b g rcap bm bU bV, e = .returned (.pointer (some ⟨b, 0, none⟩)) ∧ Room w k P eo m ecap L H b g rcap bm bU bV (fun _ => 0) (fun _ => 0) w' := by
  have hmk := make_ints m hm
  have hL : lenR k P = k := by unfold lenR; rw [if_pos hok]
  have hk0 : 0 < k := by simp [okR] at hok; omega
  have HRK := fun ao' W hr' => implRanks_any ao' k pcap P hk W hr'
  rw [hL] at HRK
  have HRK' : Hid (∀ ao' W, IRow W ao' k P → Calls Tryz.prog 67 #[.slice ao' k pcap] W fun e w' => Ans W w' e k (rk P (-1) k)) := HRK
  clear HRK hL hok
  go_enter Tryz.func29, Tryz.ntmps29
  go_wp2_with fail
  have hB0 : Hid (Below w.heap.size w (w.alloc (.cells #[.slice po k pcap, .slice eo m ecap] 30)).drew) := ((Below.refl _ _).alloc (Nat.le_refl _) _).drew
  have y0 : (w.alloc (.cells #[.slice po k pcap, .slice eo m ecap] 30)).drew.cell? ⟨w.heap.size, 0, none⟩ = some (.slice po k pcap) := by simp [go_sem]
  have y1 : (w.alloc (.cells #[.slice po k pcap, .slice eo m ecap] 30)).drew.cell? ⟨w.heap.size, 1, none⟩ = some (.slice eo m ecap) := by simp [go_sem]
  go_region_held3 (fun w' => w'.cell? ⟨w.heap.size, 0, none⟩ = some (.slice po k pcap) ∧ w'.cell? ⟨w.heap.size, 1, none⟩ = some (.slice eo m ecap) ∧ Hid (Below w.heap.size w w'))
    (first | (go_split_ands; exact ⟨keep_cell hbN (Nat.le_refl _) (by assumption), keep_cell hbN (Nat.le_refl _) (by assumption), hid_next (by assumption) hbN⟩) | (go_split_ands; exact ⟨keep_cell hbR (Nat.le_refl _) (by assumption), keep_cell hbR (Nat.le_refl _) (by assumption), hid_next (by assumption) hbR⟩) | (go_split_ands; exact ⟨keep_cell (alloc_b _ _) (Nat.le_refl _) (by assumption), keep_cell (alloc_b _ _) (Nat.le_refl _) (by assumption), hid_alloc (by assumption) _⟩) | (refine ⟨?_, ?_, ?_⟩ <;> assumption))
    (first | (go_at_call 67; go_split_ands; refine (HRK'.out po _ (hp.below (Hid.out (by assumption)) (Nat.le_refl _))).mono ?_; rintro e wR ⟨aoR, capR, rfl, hR, hbR⟩; obtain ⟨gR, rfl, hgR, iR⟩ := hR hk0; have hgl := iR.lt; clear hR) | (go_at_call 82; go_split_ands; refine (edgeNumbers_any eo m ecap L H hm hwf _ (he.below (Hid.out (by assumption)) (Nat.le_refl _))).mono ?_; rintro e wN ⟨rfl, hN, hbN⟩))
  all_goals
    go_split_ands
    go_wp2
    go_ret
    have hsR := hbR.size
    have hsN := hbN.size
    have hnl := World.ownsMap.lt hN
    simp only [World.size_alloc, World.size_drew] at hsR hsN hgR hnl hN
    refine ⟨_, gR, capR, _, _, _, rfl, ⟨Hid.out (by assumption), box_at _ _ _ (by simp), ?_, ?_, ?_, ?_, ?_, ?_⟩⟩
    · repeat (first | exact iR | refine IHas.al ?_ _ | refine IHas.nx ?_ hbN)
    · repeat (first | exact hN | refine omap_al ?_ _)
    · repeat (first | (refine made_at _ _ _ ?_; simp; done) | (refine made_at _ _ _ ?_; rfl) | refine IHas.al ?_ _ | refine IHas.nx ?_ hbN | refine IHas.nx ?_ hbR)
    · repeat (first | (refine made_at _ _ _ ?_; simp; done) | (refine made_at _ _ _ ?_; rfl) | refine IHas.al ?_ _ | refine IHas.nx ?_ hbN | refine IHas.nx ?_ hbR)
    · (try simp only [World.size_alloc, World.size_drew]); omega
    · (try simp only [World.size_alloc, World.size_drew]); omega

end Go.Proofs.YtokaechbmnbbiabGreat

/-
  The program's room, cleared and weighed.
-/
set_option linter.unusedVariables false
set_option linter.unusedSimpArgs false
namespace Go.Proofs.YtokaechbmnbbiabGreat
open Go.RowKit Go.Deep Go.Joins Go.Maps
attribute [local go_sem ↓] Go.wp_at_zero Go.wp_at_succ

set_option maxHeartbeats 2000000 in
theorem farWhereNone_any (b m : Nat) (f : Nat → Int) (hm : m ≤ 1048576) (w : World) (h : IHas w b m f) :
    Calls Tryz.prog 117 #[.slice (some ⟨b, 0, none⟩) m m] w fun e w' => (∃ v, e = .returned v) ∧ IHas w' b m (fun j => if f j = 0 then 1000000000000 else f j) ∧ w.grownBy w' (some b) := by
  go_enter Tryz.func117, Tryz.ntmps117
  go_wp2_with fail
  go_loopw [6] (fun x wr => ∃ j : Nat, j ≤ m ∧ x = .int .i64 j ∧ IHas wr b m (fun q => if q < j then (if f q = 0 then 1000000000000 else f q) else f q) ∧ w.grownBy wr (some b)) (fun x _ => m - (intOf x).toNat)
  case atStart => exact ⟨0, Nat.zero_le _, rfl, h.congr (fun q _ => by simp), World.grownBy.refl _ _⟩
  case round =>
    obtain ⟨j, hj, rfl, hI, hg⟩ := hrel
    by_cases hlt : j < m
    rotate_left
    · have e : j = m := by omega
      subst e
      go_wp2
      go_end0
      exact ⟨⟨_, rfl⟩, hI.congr (fun q hq => by simp [hq]), hg⟩
    have hlt' : (j : Int) < (m : Int) := by omega
    have hj0 : (0 : Int) ≤ (j : Int) := by omega
    have c0 := hI.cell hlt
    have z0 := hI.frozen j
    simp only [Nat.lt_irrefl, if_false] at c0
    by_cases hf : f j = 0
    · have R := (hI.set j 1000000000000).congr (g := fun q => if q < j + 1 then (if f q = 0 then 1000000000000 else f q) else f q) (fun q hq => by
        by_cases e : q = j
        · subst e; simp [hf]
        · simp only [e, if_false]
          by_cases e2 : q < j
          · have e3 : q < j + 1 := by omega
            simp [e2, e3]
          · have e3 : ¬ q < j + 1 := by omega
            simp [e2, e3])
      have hg2 := hg.trans (gr_setCell wr b j (.int .i64 1000000000000))
      clear hI hg
      go_wp2
      go_roundw
      case rel => exact ⟨j + 1, by omega, by go_num, R, hg2⟩
      case measure => simp [intOf]; omega
    · have R := hI.congr (g := fun q => if q < j + 1 then (if f q = 0 then 1000000000000 else f q) else f q) (fun q hq => by
        by_cases e : q = j
        · subst e; simp [hf]
        · by_cases e2 : q < j
          · have e3 : q < j + 1 := by omega
            simp [e2, e3]
          · have e3 : ¬ q < j + 1 := by omega
            simp [e2, e3])
      clear hI
      go_wp2
      go_roundw
      case rel => exact ⟨j + 1, by omega, by go_num, R, hg⟩
      case measure => simp [intOf]; omega

theorem gr_setRow (w : World) (g : Nat) (cs : Array Value) : w.grownBy (w.setRow g cs) (some g) :=
  ⟨rfl, rfl, rfl, by rw [setRow_size]; exact Nat.le_refl _, fun k hk hne => setRow_other w g k cs (fun e => hne (by rw [e]))⟩
theorem run_clear_ints (w : World) (b m cap : Nat) (f : Nat → Int) (h : IHas w b m f) (ty : TypeId) :
    ∃ w', (Builtin.clear_ #[27] ty #[.slice (some ⟨b, 0, none⟩) m cap]).run Tryz.prog w = .ok (.tuple #[]) w' ∧ IHas w' b m (fun _ => 0) ∧ w.grownBy w' (some b) := by
  obtain ⟨cur, hh, hs, hc⟩ := h
  obtain ⟨i0, hi0, hz0, hz1, hz2⟩ := info_parts Tryz.infoInt
  match m, hs, hc with
  | 0, hs, hc => exact ⟨w, by simp [Builtin.clear_, Sem.run_bind, run_underlying Tryz.underlying27], ⟨cur, hh, hs, fun j hj => by omega⟩, World.grownBy.refl _ _⟩
  | m + 1, hs, hc =>
    have hz : (Builtin.zeroCells (Value.int .i64 0).cells (m + 1)).toList = List.replicate (m + 1) (.int .i64 0) := by
      have h1 : (Value.int .i64 0).cells = #[.int .i64 0] := rfl
      rw [h1]
      apply List.eq_replicate_iff.2
      refine ⟨by simp [Builtin.zeroCells], fun v hv => ?_⟩
      simp [Builtin.zeroCells] at hv
      obtain ⟨_, _, rfl⟩ := hv
      simp [Nat.mod_one]
    have hr := run_storeCells_at (P := Tryz.prog) b 0 2 (List.replicate (m + 1) (.int .i64 0)) 0 cur w hh (by simp; omega) (by intro v hv; rw [(List.mem_replicate.1 hv).2]; rfl)
    refine ⟨w.setRow b (cur.toList.take (0 + 0) ++ List.replicate (m + 1) (Value.int .i64 0) ++ cur.toList.drop (0 + 0 + (List.replicate (m + 1) (Value.int .i64 0)).length)).toArray, ?_, ?_, gr_setRow w b _⟩
    rotate_left
    · refine ⟨_, setRow_heap w b cur _ _ _ hh, ?_, fun j hj => ?_⟩
      · simp <;> omega
      · simp [List.getElem?_append, List.getElem?_replicate, hj]
    · have hzv : (zeroValue 2).run Tryz.prog w = .ok (.int .i64 0) w := by simp [zeroValue, typeInfo, hi0, hz0]
      simp [Builtin.clear_, Sem.run_bind, run_underlying Tryz.underlying27, hzv, hz] at hr ⊢
      rw [hr]
      rfl

theorem wpList_clear_ints {ops : Array Oper} {rest : List Oper} {o : Oper} {a : Act} {w : World} {Q : Exit → Act → World → Prop} (hgd : o.guard = none) (x : Operand)
    (ho : o.op = .call { callee := .builtin .clear, args := #[x], argTypes := #[27] }) (b m cap : Nat) (f : Nat → Int) (hx : a.eval x = .slice (some ⟨b, 0, none⟩) m cap) (h : IHas w b m f)
    (hK : ∀ w', IHas w' b m (fun _ => 0) → w.grownBy w' (some b) → wpList Tryz.prog ops Q rest (a.put o.dst (.tuple #[])) w') : wpList Tryz.prog ops Q (o :: rest) a w := by
  refine wpList_plain hgd fun K hK' => ?_
  obtain ⟨w', hrun, hI, hg⟩ := run_clear_ints w b m cap f h o.type
  unfold Oper.wp
  simp [execOp, ho, resolve, invoke, builtin, hx, hrun, Result.andThen]
  exact hK' _ _ (hK w' hI hg)
theorem Row.turn {W W' : World} {ao : Option Addr} {n : Nat} {F T G : Nat → Int} {c : Nat} (h : Row W ao n F T G) (hg : W.grownBy W' (some c)) (hne : 0 < n → ∀ a, ao = some a → a.block ≠ c) : Row W' ao n F T G := fun k hk => by
  obtain ⟨b, o, e, c0, c1, c2⟩ := h k hk
  have hb : b ≠ c := hne (by omega) _ e
  have hl := lt_of_cell c0
  have hbl := hg.block b hl (by simp; exact hb)
  exact ⟨b, o, e, by simpa [World.cell?, hbl] using c0, by simpa [World.cell?, hbl] using c1, by simpa [World.cell?, hbl] using c2⟩
theorem cell_turn {W W' : World} {b o c : Nat} {v : Value} (h : W.cell? ⟨b, o, none⟩ = some v) (hg : W.grownBy W' (some c)) (hne : b ≠ c) : W'.cell? ⟨b, o, none⟩ = some v := by
  have hbl := hg.block b (lt_of_cell h) (by simp; exact hne)
  simpa [World.cell?, hbl] using h

/-- A look-up of an edge that is there. -/
theorem look_edge {W : World} {bm m : Nat} {L H : Nat → Int} (h : OMap W bm m L H) (hw : EWf L H m) {e : Nat} (he : e < m) (hu : ∀ q, q < m → L q = L e → H q = H e → q = e) {a c : Int} (ha : L e = a) (hc : H e = c) :
    ∀ q, (Instr.lookup 84 (.map (some bm)) (.agg #[.int .i64 a, .int .i64 c]) false).run Tryz.prog (W.drewN q) = .ok (.int .i64 (e : Int)) (W.drewN q) := fun q => by
  subst ha
  subst hc
  have hkey := key_edge (L e) (H e) (hw e he).1 (hw e he).2
  obtain ⟨c, hrun, hat, _⟩ := (ownsMap_block (w' := W.drewN q) h rfl).lookup_int Tryz.keyLawE Tryz.underlying84 Tryz.underlying3 (Tryz.mapZeroE _) hkey
  rcases enums_look L H (L e) (H e) (hw e he).1 (hw e he).2 m hw with ⟨_, h2⟩ | ⟨x, hx, h1, h2, _, h4⟩
  · exact absurd ⟨rfl, rfl⟩ (h2 e he)
  · have hxE : x = e := hu x hx h1 h2
    rw [h4, hxE] at hat
    simp only [DataW.lit.injEq, Lit.int.injEq, true_and] at hat
    rw [hrun, hat]

set_option maxRecDepth 100000 in
set_option maxHeartbeats 4000000 in
theorem weigh_any (w0 : World) (k n m : Nat) (p : Int) (ao : Option Addr) (cap : Nat) (F T G P L H : Nat → Int) (eo : Option Addr) (ecap b g rcap bm bU bV : Nat) (U V : Nat → Int) (hE : CEnv k n m F T G P L H) (hao : 0 < n → ∀ a, ao = some a → a.block ≠ bU ∧ a.block ≠ bV) (w : World) (hr : Row w ao n F T G) (hR : Room w0 k P eo m ecap L H b g rcap bm bU bV U V w) :
    Calls Tryz.prog 83 #[.pointer (some ⟨b, 0, none⟩), .agg #[.int .i64 p, .slice ao n cap]] w fun e w' => (∃ v, e = .returned v) ∧ Room w0 k P eo m ecap L H b g rcap bm bU bV (w0U n F T G P L H) (w0D n F T G P L H) w' ∧ Turns w w' [bU, bV] := by
  have hbl : b < w.heap.size := (Array.getElem?_eq_some_iff.1 hR.box).1
  have hUl := hR.up.lt
  have hVl := hR.dn.lt
  have hm := hE.m1000
  have hn := hE.n100
  have R0 : Hid (Room w0 k P eo m ecap L H b g rcap bm bU bV U V (w.alloc (.cells #[.int .i64 p, .slice ao n cap] 26))) := hR.next (alloc_b _ _)
  have c3 : w.cell? ⟨b, 3, none⟩ = some (.slice (some ⟨bU, 0, none⟩) m m) := hR.cell rfl
  have g1 : (w.alloc (.cells #[.int .i64 p, .slice ao n cap] 26)).cell? ⟨w.heap.size, 1, none⟩ = some (.slice ao n cap) := by simp [go_sem]
  have hr0 := hr.alloc (.cells #[.int .i64 p, .slice ao n cap] 26)
  have hA : 0 < n → ∀ a, ao = some a → a.block ≠ bU := fun h a e => (hao h a e).1
  have hA' : 0 < n → ∀ a, ao = some a → a.block ≠ bV := fun h a e => (hao h a e).2
  have HAO : Hid ((0 < n → ∀ a, ao = some a → a.block ≠ bU) ∧ (0 < n → ∀ a, ao = some a → a.block ≠ bV)) := ⟨hA, hA'⟩
  have HR0 : Hid (Row (w.alloc (.cells #[.int .i64 p, .slice ao n cap] 26)) ao n F T G) := hr0
  clear hR hr hA hA' hao hr0
  obtain ⟨w1, hrun1, hI1, hg1⟩ := run_clear_ints (w.alloc (.cells #[.int .i64 p, .slice ao n cap] 26)) bU m m U R0.out.up 0
  have R1 := R0.out.turnU hg1 hI1
  have HR1 := HR0.out.turn hg1 HAO.out.1
  replace g1 := cell_turn g1 hg1 (by omega)
  have c4 : w1.cell? ⟨b, 4, none⟩ = some (.slice (some ⟨bV, 0, none⟩) m m) := R1.cell rfl
  obtain ⟨w2, hrun2, hI2, hg2⟩ := run_clear_ints w1 bV m m V R1.dn 0
  have R2 := (R1.turnD hg2 hI2).congr (U' := wzU F T G P L H 0) (V' := wzD F T G P L H 0) (fun _ _ => rfl) (fun _ _ => rfl)
  have HR2 := HR1.turn hg2 HAO.out.2
  replace g1 := cell_turn g1 hg2 (by omega)
  have hs1 := hg1.size
  have hs2 := hg2.size
  have HTU : Hid (Turns w w2 [bU, bV]) := ((Turns.of_below (alloc_b w _) (Nat.le_refl _) _).trans ((Turns.of_grown hg1).more (by simp))).trans ((Turns.of_grown hg2).more (by simp))
  simp only [World.size_alloc] at hs1
  clear hI1 R1 HR1 R0 HR0 hg1 hI2 hg2
  have HR3 : Hid (Row w2 ao n F T G) := HR2
  have R3 : Hid (Room w0 k P eo m ecap L H b g rcap bm bU bV (wzU F T G P L H 0) (wzD F T G P L H 0) w2) := R2
  clear R2 HR2
  go_enter Tryz.func83, Tryz.ntmps83
  go_wp2_with fail
  go_loopw [21] (fun x wr => ∃ t : Nat, t ≤ n ∧ x = .int .i64 t ∧ Room w0 k P eo m ecap L H b g rcap bm bU bV (wzU F T G P L H t) (wzD F T G P L H t) wr ∧ Row wr ao n F T G ∧ w.heap.size < wr.heap.size ∧ Turns w wr [bU, bV]) (fun x _ => n - (intOf x).toNat)
  case atStart => exact ⟨0, Nat.zero_le _, rfl, R3.out, HR3.out, by omega, HTU.out⟩
  case round =>
    clear R3 HR3 hrun1 hrun2 c3 c4 g1 HTU
    obtain ⟨t, ht, rfl, hR, hrow, hsz, htu⟩ := hrel
    have HTU : Hid (Turns w wr [bU, bV]) := htu
    clear htu
    by_cases hlt : t < n
    rotate_left
    · have e : t = n := by omega
      subst e
      have HR9 : Hid (Room w0 k P eo m ecap L H b g rcap bm bU bV (wzU F T G P L H t) (wzD F T G P L H t) wr) := hR
      have c3 : wr.cell? ⟨b, 3, none⟩ = some (.slice (some ⟨bU, 0, none⟩) m m) := hR.cell rfl
      clear hR
      go_wp2_with fail
      refine (farWhereNone_any bU m _ (by omega) _ HR9.out.up).mono ?_
      rintro v1 w5 ⟨⟨v, rfl⟩, hI5, hg5⟩
      have R5 := HR9.out.turnU hg5 hI5
      have HT5 : Hid (Turns w w5 [bU, bV]) := HTU.out.trans ((Turns.of_grown hg5).more (by simp))
      have c4 : w5.cell? ⟨b, 4, none⟩ = some (.slice (some ⟨bV, 0, none⟩) m m) := R5.cell rfl
      clear HR9 hI5 hg5 c3
      go_wp2_with fail
      refine (farWhereNone_any bV m _ (by omega) _ R5.dn).mono ?_
      rintro v1 w6 ⟨⟨v, rfl⟩, hI6, hg6⟩
      have R6 := (R5.turnD hg6 hI6).congr (U' := w0U t F T G P L H) (V' := w0D t F T G P L H) (fun j _ => hE.farU j) (fun j _ => hE.farD j)
      have HT6 : Hid (Turns w w6 [bU, bV]) := HT5.out.trans ((Turns.of_grown hg6).more (by simp))
      clear R5 hI6 hg6 c4
      go_wp2
      go_end0
      exact ⟨⟨_, rfl⟩, R6, HT6.out⟩
    obtain ⟨x, y, e, hx, hy, he, ⟨ex, f0, f1⟩, ⟨ey, t0, t1⟩, ⟨rx, ry⟩, hcase⟩ := hE.arc t hlt
    obtain ⟨tF, hF⟩ : ∃ tF : Nat, F t = (tF : Int) := ⟨(F t).toNat, by omega⟩
    obtain ⟨tT, hT⟩ : ∃ tT : Nat, T t = (tT : Int) := ⟨(T t).toNat, by omega⟩
    have htF : (F t).toNat = tF := by omega
    have htT : (T t).toNat = tT := by omega
    rw [htF] at rx
    rw [htT] at ry
    obtain ⟨ab, aoff, hao, a0, a1, a2⟩ := hrow t hlt
    subst hao
    have hal := lt_of_cell a0
    have lF : tF < k := by omega
    have lT : tT < k := by omega
    have c1 : wr.cell? ⟨b, 1, none⟩ = some (.slice (some ⟨g, 0, none⟩) k rcap) := hR.cell rfl
    have c2 : wr.cell? ⟨b, 2, none⟩ = some (.map (some bm)) := hR.cell rfl
    have c3 : wr.cell? ⟨b, 3, none⟩ = some (.slice (some ⟨bU, 0, none⟩) m m) := hR.cell rfl
    have c4 : wr.cell? ⟨b, 4, none⟩ = some (.slice (some ⟨bV, 0, none⟩) m m) := hR.cell rfl
    have k1 : wr.cell? ⟨g, tF, none⟩ = some (.int .i64 (x : Int)) := by rw [← rx]; exact hR.rks.cell lF
    have k2 : wr.cell? ⟨g, tT, none⟩ = some (.int .i64 (y : Int)) := by rw [← ry]; exact hR.rks.cell lT
    have hbl' : b < wr.heap.size := by omega
    have hgl := hR.rks.lt
    have hml := World.ownsMap.lt hR.nos
    have iF : (tF : Int) < (k : Int) := by omega
    have iT : (tT : Int) < (k : Int) := by omega
    have t9 : (0 : Int) ≤ (t : Int) := by omega
    have t8 : (t : Int) < (n : Int) := by omega
    have e9 : (e : Int) < (m : Int) := by omega
    have R1 : Hid (Room w0 k P eo m ecap L H b g rcap bm bU bV (wzU F T G P L H t) (wzD F T G P L H t) (wr.alloc (.cells #[.int .i64 (tF : Int), .int .i64 (tT : Int), .int .i64 (G t)] 115))) := hR.next (alloc_b _ _)
    have HRW : Hid (Row (wr.alloc (.cells #[.int .i64 (tF : Int), .int .i64 (tT : Int), .int .i64 (G t)] 115)) (some ⟨ab, aoff, none⟩) n F T G) := hrow.alloc _
    clear hR hrow rx ry htF htT
    go_wp2
    go_quiet (fail)
    have hd1 := below_drewN (Below.refl (wr.alloc (.cells #[.int .i64 (tF : Int), .int .i64 (tT : Int), .int .i64 (G t)] 115)).heap.size (wr.alloc (.cells #[.int .i64 (tF : Int), .int .i64 (tT : Int), .int .i64 (G t)] 115))) nq
    have R2 := R1.out.next hd1
    have HR2 : Hid (Row ((wr.alloc (.cells #[.int .i64 (tF : Int), .int .i64 (tT : Int), .int .i64 (G t)] 115)).drewN nq) (some ⟨ab, aoff, none⟩) n F T G) := HRW.out.below hd1 (Nat.le_refl _)
    have g2 : ((wr.alloc (.cells #[.int .i64 (tF : Int), .int .i64 (tT : Int), .int .i64 (G t)] 115)).drewN nq).cell? ⟨wr.heap.size, 2, none⟩ = some (.int .i64 (G t)) := by simp [go_sem]
    have hs9 := hd1.size
    have HT1 : Hid (Turns w ((wr.alloc (.cells #[.int .i64 (tF : Int), .int .i64 (tT : Int), .int .i64 (G t)] 115)).drewN nq) [bU, bV]) := (HTU.out.trans (Turns.of_below (alloc_b wr _) (Nat.le_refl _) _)).trans (Turns.of_below hd1 (Nat.le_refl _) _)
    simp only [World.size_alloc] at hs9
    clear R1 HRW hd1 a0 a1 a2 c1 c2 c3 c4 k1 k2
    generalize (wr.alloc (.cells #[.int .i64 (tF : Int), .int .i64 (tT : Int), .int .i64 (G t)] 115)).drewN nq = W1 at R2 HR2 g2 hs9 HT1 ⊢
    have c2 : W1.cell? ⟨b, 2, none⟩ = some (.map (some bm)) := R2.cell rfl
    have c3 : W1.cell? ⟨b, 3, none⟩ = some (.slice (some ⟨bU, 0, none⟩) m m) := R2.cell rfl
    have c4 : W1.cell? ⟨b, 4, none⟩ = some (.slice (some ⟨bV, 0, none⟩) m m) := R2.cell rfl
    have hwf : EWf L H m := fun j hj => by
      have := hE.ei j hj
      have := hE.k24
      exact ⟨WalkArith.wf_i64 (by omega), WalkArith.wf_i64 (by omega)⟩
    rcases hcase with ⟨hxy, hL, hH⟩ | ⟨hxy, hL, hH⟩
    · have hlk := look_edge R2.nos hwf he (fun q hq h1 h2 => hE.once hq he h1 h2) hL hH
      have hxy' : (x : Int) < (y : Int) := by omega
      have u0 := R2.up.cell he
      have z0 := R2.up.frozen e
      have HX := hE.up hx hy he ex ey hxy hL hH
      have R3 : Hid (Room w0 k P eo m ecap L H b g rcap bm bU bV (wzU F T G P L H t) (wzD F T G P L H t) W1) := R2
      clear R2
      go_wp2
      refine wp_region_last_lit 16 (by kernel_rfl) (by rfl) (by rfl) (by rfl) (by kernel_rfl) (by kernel_rfl) (by kernel_rfl) (by rfl) ?_
      simp only [List.take_succ_cons, List.take_zero, List.cons_append, List.nil_append]
      repeat (go_big_quiet_step (fail))
      refine wpQuiet_nil ?_
      intro w7 hw7
      obtain ⟨nq, rfl⟩ := hw7
      have hd2 := below_drewN (Below.refl W1.heap.size W1) nq
      have R4 := R3.out.next hd2
      have HR4 := HR2.out.below hd2 (Nat.le_refl _)
      have hs8 := hd2.size
      have HT7 : Hid (Turns w (W1.drewN nq) [bU, bV]) := HT1.out.trans (Turns.of_below hd2 (Nat.le_refl _) _)
      clear R3 HR2 hd2 hlk u0 z0 c2 c3 c4 g2
      generalize W1.drewN nq = W7 at R4 HR4 hs8 HT7 ⊢
      have u0 := R4.up.cell he
      have z0 := R4.up.frozen e
      have hgr := gr_setCell W7 bU e (.int .i64 (G t))
      have R5 := (R4.turnU hgr ((R4.up.set e (G t)).congr HX.1)).congr (U' := wzU F T G P L H (t + 1)) (V' := wzD F T G P L H (t + 1)) (fun _ _ => rfl) (fun j hj => (HX.2 j hj).symm)
      have HR5 := HR4.turn hgr HAO.out.1
      have hs7 := hgr.size
      have HT8 := HT7.out.trans ((Turns.of_grown hgr).more (by simp))
      clear R4 HR4 hgr HX
      go_simp
      go_wp2
      go_roundw
      case rel => exact ⟨t + 1, by omega, by go_num, R5, HR5, by omega, HT8⟩
      case measure => simp [intOf]; omega
    · have hlk := look_edge R2.nos hwf he (fun q hq h1 h2 => hE.once hq he h1 h2) hL hH
      have hxy' : ¬ (x : Int) < (y : Int) := by omega
      have u0 := R2.dn.cell he
      have z0 := R2.dn.frozen e
      have HX := hE.dn hx hy he ex ey hxy hL hH
      have R3 : Hid (Room w0 k P eo m ecap L H b g rcap bm bU bV (wzU F T G P L H t) (wzD F T G P L H t) W1) := R2
      clear R2
      go_wp2
      refine wp_region_last_lit 16 (by kernel_rfl) (by rfl) (by rfl) (by rfl) (by kernel_rfl) (by kernel_rfl) (by kernel_rfl) (by rfl) ?_
      simp only [List.take_succ_cons, List.take_zero, List.cons_append, List.nil_append]
      repeat (go_big_quiet_step (fail))
      refine wpQuiet_nil ?_
      intro w7 hw7
      obtain ⟨nq, rfl⟩ := hw7
      have hd2 := below_drewN (Below.refl W1.heap.size W1) nq
      have R4 := R3.out.next hd2
      have HR4 := HR2.out.below hd2 (Nat.le_refl _)
      have hs8 := hd2.size
      have HT7 : Hid (Turns w (W1.drewN nq) [bU, bV]) := HT1.out.trans (Turns.of_below hd2 (Nat.le_refl _) _)
      clear R3 HR2 hd2 hlk u0 z0 c2 c3 c4 g2
      generalize W1.drewN nq = W7 at R4 HR4 hs8 HT7 ⊢
      have u0 := R4.dn.cell he
      have z0 := R4.dn.frozen e
      have hgr := gr_setCell W7 bV e (.int .i64 (G t))
      have R5 := (R4.turnD hgr ((R4.dn.set e (G t)).congr HX.1)).congr (U' := wzU F T G P L H (t + 1)) (V' := wzD F T G P L H (t + 1)) (fun j hj => (HX.2 j hj).symm) (fun _ _ => rfl)
      have HR5 := HR4.turn hgr HAO.out.2
      have hs7 := hgr.size
      have HT8 := HT7.out.trans ((Turns.of_grown hgr).more (by simp))
      clear R4 HR4 hgr HX
      go_simp
      go_wp2
      go_roundw
      case rel => exact ⟨t + 1, by omega, by go_num, R5, HR5, by omega, HT8⟩
      case measure => simp [intOf]; omega

end Go.Proofs.YtokaechbmnbbiabGreat
