/-
  Helpers, merged: RdP, ArcL, RdQ, Grow, NumR, NumsR, Skips, Steps.
-/
import Derived.Test.YtcmeppjfjledfaaDoorPack1
import Derived.Deep.RegionLaw
import Derived.Deep.AppendLies
import Derived.Test.YtcmeppjfjledfaaDoorRows
import Derived.Deep.RegionHeld
/-
  A command out of its text, plainly: the document's reading and the program's are one.
-/
set_option linter.unusedVariables false
set_option linter.unusedSimpArgs false
namespace Go.Proofs.YtcmeppjfjledfaaDoor

def isL (c : UInt8) : Bool := decide (97 ≤ c.toNat) && decide (c.toNat ≤ 122)
def at3 (ns : List Int) (j k : Nat) : Int := ns.getD (3 * k + j) 0
def txNone : List UInt8 := [110, 111, 110, 101]
def txAsk : List UInt8 := [97, 115, 107]
def txWeigh : List UInt8 := [119, 101, 105, 103, 104]
/-- Is a command of this kind with these numbers right? -/
def okC (K : Int) (ns : List Int) : Bool :=
  if K = 1 then true else if K = 2 then cmdB 2 (ns.length / 3) (at3 ns 0) (at3 ns 1) (at3 ns 2) 0 0 else cmdB 3 0 (at3 ns 0) (at3 ns 0) (at3 ns 0) (ns.getD 0 0) (ns.getD 1 0)
/-- The document's reading, ahead of the question whether it is right. -/
def rdS (l : List UInt8) : Option (Int × List Int) :=
  if l = txNone then some (1, []) else
  if 4 < l.length ∧ l.take 4 = txAsk ++ [32] then (match snums (l.drop 4) [] [] with | some ns => if ns.length = 2 then some (3, ns) else none | none => none) else
  if 6 < l.length ∧ l.take 6 = txWeigh ++ [32] then (match snums (l.drop 6) [] [] with | some ns => if ns.length % 3 = 0 then some (2, ns) else none | none => none) else none
/-- The program's name and numbers. -/
def wds (l : List UInt8) : Option (List UInt8 × List Int) :=
  match l.dropWhile isL with
  | [] => some (l, [])
  | c :: t => if c = 32 then (inums t (.ahead [])).map (fun ns => (l.takeWhile isL, ns)) else none
def cmdOf (nm : List UInt8) (ns : List Int) : Option (Int × List Int) :=
  if nm = txNone then (if ns.length = 0 then some (1, []) else none) else
  if nm = txWeigh then (if ns.length % 3 = 0 then some (2, ns) else none) else
  if nm = txAsk then (if ns.length = 2 then some (3, ns) else none) else none
def rdI (l : List UInt8) : Option (Int × List Int) := match wds l with | some (nm, ns) => cmdOf nm ns | none => none
def onlyOk (r : Option (Int × List Int)) : Option (Int × List Int) := match r with | some (K, ns) => if okC K ns = true then some (K, ns) else none | none => none

theorem inB_iff {x lo hi : Int} : inB x lo hi = true ↔ lo ≤ x ∧ x ≤ hi := by simp [inB]
theorem arcB_iff {f t g p : Int} : arcB f t g p = true ↔ (0 ≤ f ∧ f ≤ p - 1) ∧ (0 ≤ t ∧ t ≤ p - 1) ∧ f ≠ t ∧ 1 ≤ g ∧ g ≤ 1000000 := by simp [arcB, inB]
theorem batB_at {F T G : Nat → Int} : ∀ {n k : Nat}, batB F T G n = true → k < n → arcB (F k) (T k) (G k) 24 = true
  | 0, k, _, h => by omega
  | n + 1, k, hb, h => by
    unfold batB at hb
    rw [Bool.and_eq_true] at hb
    by_cases e : k = n
    · subst e; exact hb.2
    · exact batB_at hb.1 (by omega)
theorem fine3 {ns : List Int} (hl : ns.length = 2) (h : okC 3 ns = true) : Fine 0 ns := by
  match ns, hl with
  | [a, b], _ =>
    simp [okC, cmdB, inB_iff] at h
    exact ⟨by simp; omega, by simp⟩
theorem fine2 {ns : List Int} (hl : ns.length % 3 = 0) (h : okC 2 ns = true) : Fine 0 ns := by
  simp [okC, cmdB, batchB] at h
  obtain ⟨h1, h2, h3⟩ := h
  refine ⟨fun x hx => ?_, by omega⟩
  simp at hx
  obtain ⟨i, hi, rfl⟩ := List.getElem_of_mem hx
  have hb := arcB_iff.1 (batB_at (k := i / 3) h3 (by omega))
  have hg : ∀ j, 3 * (i / 3) + j = i → at3 ns j (i / 3) = ns[i] := fun j e => by
    unfold at3
    rw [e]
    simp [List.getD, hi]
  have hm : i % 3 = 0 ∨ i % 3 = 1 ∨ i % 3 = 2 := by omega
  rcases hm with hm | hm | hm
  · rw [← hg 0 (by omega)]; omega
  · rw [← hg 1 (by omega)]; omega
  · rw [← hg 2 (by omega)]; omega
theorem drop_split (l : List UInt8) : l = l.takeWhile isL ++ l.dropWhile isL := (List.takeWhile_append_dropWhile).symm
theorem take_ask {l : List UInt8} (h : l.take 4 = txAsk ++ [32]) : l.takeWhile isL = txAsk ∧ l.dropWhile isL = 32 :: l.drop 4 := by
  match l, h with
  | a :: b :: c :: d :: t, h =>
    simp [txAsk] at h
    obtain ⟨rfl, rfl, rfl, rfl⟩ := h
    exact ⟨rfl, rfl⟩
  | [a, b, c], h => simp [txAsk] at h
  | [a, b], h => simp [txAsk] at h
  | [a], h => simp [txAsk] at h
  | [], h => simp [txAsk] at h
theorem take_weigh {l : List UInt8} (h : l.take 6 = txWeigh ++ [32]) : l.takeWhile isL = txWeigh ∧ l.dropWhile isL = 32 :: l.drop 6 := by
  match l, h with
  | a :: b :: c :: d :: e :: f :: t, h =>
    simp [txWeigh] at h
    obtain ⟨rfl, rfl, rfl, rfl, rfl, rfl⟩ := h
    exact ⟨rfl, rfl⟩
  | [a, b, c, d, e], h => simp [txWeigh] at h
  | [a, b, c, d], h => simp [txWeigh] at h
  | [a, b, c], h => simp [txWeigh] at h
  | [a, b], h => simp [txWeigh] at h
  | [a], h => simp [txWeigh] at h
  | [], h => simp [txWeigh] at h
theorem none_drop : txNone.dropWhile isL = [] ∧ txNone.takeWhile isL = txNone := by decide
theorem nums_zero {t : List UInt8} {ns : List Int} : inums t (.ahead []) = some ns ↔ snums t [] [] = some ns ∧ Fine 0 ns := (nums_same t).1 [] ns (by simp)
theorem snums_nil : snums [] [] [] = none := by simp [snums, num1_nil]
/-- One kind's numbers, read either way. -/
theorem only_kind {t : List UInt8} {K : Int} {C : List Int → Prop} [DecidablePred C] (hf : ∀ ns, C ns → okC K ns = true → Fine 0 ns) :
    onlyOk (match inums t (.ahead []) with | some ns => if C ns then some (K, ns) else none | none => none) = onlyOk (match snums t [] [] with | some ns => if C ns then some (K, ns) else none | none => none) := by
  cases hs : snums t [] [] with
  | none =>
    have hi : inums t (.ahead []) = none := by
      cases hi : inums t (.ahead []) with
      | none => rfl
      | some ns => have := (nums_zero.1 hi).1; rw [hs] at this; cases this
    rw [hi]
  | some ns =>
    by_cases hF : Fine 0 ns
    · rw [nums_zero.2 ⟨hs, hF⟩]
    · have hi : inums t (.ahead []) = none := by
        cases hi : inums t (.ahead []) with
        | none => rfl
        | some ns' =>
          have := nums_zero.1 hi
          rw [hs] at this
          obtain ⟨e, hF'⟩ := this
          cases e
          exact absurd hF' hF
      rw [hi]
      by_cases hC : C ns
      · have hk : okC K ns = false := by
          cases hk : okC K ns with
          | false => rfl
          | true => exact absurd (hf ns hC hk) hF
        simp [onlyOk, hC, hk]
      · simp [onlyOk, hC]
theorem read_same (l : List UInt8) : onlyOk (rdI l) = onlyOk (rdS l) := by
  by_cases h1 : l = txNone
  · subst h1
    have e1 : rdI txNone = some (1, []) := by decide
    have e2 : rdS txNone = some (1, []) := by simp [rdS]
    rw [e1, e2]
  by_cases h2 : l.take 4 = txAsk ++ [32]
  · obtain ⟨hn, hd⟩ := take_ask h2
    have e1 : rdI l = match inums (l.drop 4) (.ahead []) with | some ns => if ns.length = 2 then some (3, ns) else none | none => none := by
      unfold rdI wds
      rw [hd, hn]
      simp only [if_pos]
      cases inums (l.drop 4) (.ahead []) with
      | none => rfl
      | some ns => simp [cmdOf, txAsk, txNone, txWeigh]
    rw [e1, only_kind (fun ns hC hk => fine3 hC hk)]
    by_cases h4 : 4 < l.length
    · unfold rdS
      rw [if_neg h1, if_pos ⟨h4, h2⟩]
    · have hdr : l.drop 4 = [] := List.drop_eq_nil_of_le (by omega)
      have h6 : ¬ 6 < l.length := by omega
      unfold rdS
      rw [if_neg h1, if_neg (fun e => h4 e.1), if_neg (fun e => h6 e.1), hdr, snums_nil]
  by_cases h3 : l.take 6 = txWeigh ++ [32]
  · obtain ⟨hn, hd⟩ := take_weigh h3
    have e1 : rdI l = match inums (l.drop 6) (.ahead []) with | some ns => if ns.length % 3 = 0 then some (2, ns) else none | none => none := by
      unfold rdI wds
      rw [hd, hn]
      simp only [if_pos]
      cases inums (l.drop 6) (.ahead []) with
      | none => rfl
      | some ns => simp [cmdOf, txAsk, txNone, txWeigh]
    rw [e1, only_kind (fun ns hC hk => fine2 hC hk)]
    by_cases h6 : 6 < l.length
    · unfold rdS
      rw [if_neg h1, if_neg (fun e => h2 e.2), if_pos ⟨h6, h3⟩]
    · have hdr : l.drop 6 = [] := List.drop_eq_nil_of_le (by omega)
      unfold rdS
      rw [if_neg h1, if_neg (fun e => h2 e.2), if_neg (fun e => h6 e.1), hdr, snums_nil]
  have e2 : rdS l = none := by
    unfold rdS
    rw [if_neg h1, if_neg (fun e => h2 e.2), if_neg (fun e => h3 e.2)]
  rw [e2]
  have hsp := drop_split l
  unfold rdI wds
  cases hd : l.dropWhile isL with
  | nil =>
    simp only []
    unfold cmdOf
    rw [if_neg h1]
    by_cases hw : l = txWeigh
    · subst hw
      simp [onlyOk, okC, cmdB, batchB]
    · rw [if_neg hw]
      by_cases ha : l = txAsk
      · rw [if_pos ha]; simp [onlyOk]
      · rw [if_neg ha]
  | cons c t =>
    simp only []
    by_cases hc : c = 32
    · rw [if_pos hc]
      subst hc
      rw [hd] at hsp
      cases hi : inums t (.ahead []) with
      | none => rfl
      | some ns =>
        simp only [Option.map_some]
        unfold cmdOf
        by_cases ha : l.takeWhile isL = txAsk
        · exact absurd (by rw [hsp, ha]; simp [txAsk]) h2
        by_cases hw : l.takeWhile isL = txWeigh
        · exact absurd (by rw [hsp, hw]; simp [txWeigh]) h3
        rw [if_neg hw, if_neg ha]
        by_cases hno : l.takeWhile isL = txNone
        · rw [if_pos hno]
          by_cases h0 : ns.length = 0
          · have : ns = [] := List.length_eq_zero_iff.1 h0
            subst this
            have hs := (nums_zero.1 hi).1
            exfalso
            have hlong : ∀ (l cur : List UInt8), snums l [] cur ≠ some [] := by
              intro l
              induction l with
              | nil => intro cur; simp [snums]
              | cons d u ih =>
                intro cur
                unfold snums
                split
                · cases hn : num1 cur with
                  | none => simp
                  | some n =>
                    simp only []
                    intro h
                    have := (snums_pre u ([] ++ [n]) [] [] h).length_le
                    simp at this
                · exact ih _
            exact hlong _ _ hs
          · rw [if_neg h0]
        · rw [if_neg hno]
    · rw [if_neg hc]

end Go.Proofs.YtcmeppjfjledfaaDoor

/-
  A list of arcs of the call's own, or none yet, that grows by one, its numbers known: the law for the walk. A command's box, and a command that is answered.
-/
set_option linter.unusedVariables false
set_option linter.unusedSimpArgs false
namespace Go.Proofs.YtcmeppjfjledfaaDoor
open Go.RowKit Go.Maps

/-- n arcs behind a slice of the call's own, or a slice that is nil. -/
def OwnA (w : World) (base : Nat) (go : Option Addr) (n cap : Nat) (f : Nat → Int) : Prop := w.ownsRow base 37 3 (.slice go n cap) n (cellsOf f (n * 3))
theorem OwnA.nil (w : World) (base : Nat) (f : Nat → Int) : OwnA w base none 0 0 f := ⟨by simp [cellsOf], .inl ⟨rfl, rfl⟩⟩
theorem OwnA.at {w : World} {base n cap x : Nat} {go : Option Addr} {f : Nat → Int} (h : OwnA w base go n cap f) (e : (Value.slice go n cap).ownBlock = some x) : base ≤ x ∧ x < w.heap.size := World.ownsRow.lt h x e
theorem OwnA.of_block {w w' : World} {base n cap : Nat} {go : Option Addr} {f : Nat → Int} (h : OwnA w base go n cap f) (e : ∀ x, (Value.slice go n cap).ownBlock = some x → w'.heap[x]? = w.heap[x]?) : OwnA w' base go n cap f := by
  refine ⟨h.1, ?_⟩
  rcases h.2 with hn | ⟨g', cap', cur, hv, hb', hgg, rest⟩
  · exact .inl hn
  · have e2 := e g' (by rw [hv]; rfl)
    exact .inr ⟨g', cap', cur, hv, hb', e2.trans hgg, rest⟩
theorem OwnA.next {w w' : World} {base n cap : Nat} {go : Option Addr} {f : Nat → Int} (h : OwnA w base go n cap f) (hb : Below w.heap.size w w') : OwnA w' base go n cap f := h.of_block (fun x e => hb.block x (h.at e).2)
theorem OwnA.grown {w w' : World} {base n cap : Nat} {go : Option Addr} {f : Nat → Int} {row : Option Nat} (h : OwnA w base go n cap f) (hg : w.grownBy w' row) (hne : ∀ x, (Value.slice go n cap).ownBlock = some x → row ≠ some x) : OwnA w' base go n cap f := h.of_block (fun x e => hg.block x (h.at e).2 (fun q => hne x e q.symm))
theorem OwnA.owns {w : World} {base n cap : Nat} {go : Option Addr} {f : Nat → Int} (h : OwnA w base go n cap f) : OwnS w base go n f := fun k hk => by
  obtain ⟨hl, h0 | ⟨g', cap', cur, hv, hb, hh, h1, h2, h3, h4⟩⟩ := h
  · omega
  · simp at hv
    obtain ⟨rfl, rfl⟩ := hv
    refine ⟨g', rfl, hb, cur, hh, by omega, fun j hj => ?_⟩
    have : (cur.toList.take (n * 3))[j]? = (cellsOf f (n * 3))[j]? := by rw [h4]
    rw [List.getElem?_take_of_lt hj, cellsOf, List.getElem?_map, List.getElem?_range hj] at this
    simpa using this
theorem OwnA.cap0 {w : World} {base n cap : Nat} {f : Nat → Int} (h : OwnA w base none n cap f) : n = 0 := by
  obtain ⟨hl, h0 | ⟨g', cap', cur, hv, _⟩⟩ := h
  · exact h0.2
  · simp at hv
theorem cells_next (f : Nat → Int) (n : Nat) : cellsOf f (n * 3) ++ [.int .i64 (f (n * 3)), .int .i64 (f (n * 3 + 1)), .int .i64 (f (n * 3 + 2))] = cellsOf f ((n + 1) * 3) := by
  have e : (n + 1) * 3 = n * 3 + 1 + 1 + 1 := by omega
  rw [e]
  simp [cellsOf, List.range_succ]
theorem news3_arc {w : World} {B : Nat} {x y z : Int} {t : TypeId} (hb : w.heap[B]? = some (.cells #[.int .i64 x, .int .i64 y, .int .i64 z] t (0, 0))) : ∀ j u, [Value.int .i64 x, .int .i64 y, .int .i64 z][j]? = some u → w.cell? ((⟨B, 0, none⟩ : Addr).add j) = some u :=
  World.news_of_block hb
theorem ones_arc (x y z : Int) : ∀ u ∈ [Value.int .i64 x, .int .i64 y, .int .i64 z], u.oneCell' = true := fun u hu => by
  simp at hu
  rcases hu with rfl | rfl | rfl <;> rfl
theorem wp_append_known {o : Oper} {a : Act} {w : World} {K : Act → World → Prop} {Q : Exit → Act → World → Prop} (s x : Operand)
    (ho : o.op = .call { callee := .builtin .append, args := #[s, x], argTypes := #[24, 24] }) (base k gc : Nat) (go : Option Addr) (f : Nat → Int) (hs : a.eval s = .slice go k gc) (hown : OwnA w base go k gc f) (B : Nat) (hx : a.eval x = .slice (some ⟨B, 0, none⟩) 1 1)
    (hB : w.heap[B]? = some (.cells #[.int .i64 (f (k * 3)), .int .i64 (f (k * 3 + 1)), .int .i64 (f (k * 3 + 2))] 37 (0, 0))) (hk : k ≤ 10000000) (hbase : base ≤ w.heap.size)
    (h : ∀ g' gc' w', OwnA w' base (some ⟨g', 0, none⟩) (k + 1) gc' f → w.grownBy w' (Value.slice go k gc).ownBlock → ((Value.slice go k gc).ownBlock = some g' ∨ g' = w.heap.size) → K (a.put o.dst (.slice (some ⟨g', 0, none⟩) (k + 1) gc')) w') : o.wp Tryd.prog a w K Q := by
  obtain ⟨i0, hi0, hz0, hz1, hz2⟩ := info_parts Tryd.infoArc
  refine wp_append_lies w s x 24 ho base 37 i0 _ 3 24 Tryd.underlying24 hi0 hz0 hz1 hz2 rfl (by omega) _ k (cellsOf f (k * 3)) hs hown ⟨B, 0, none⟩ 1 1 [.int .i64 (f (k * 3)), .int .i64 (f (k * 3 + 1)), .int .i64 (f (k * 3 + 2))] hx rfl (news3_arc hB) (ones_arc _ _ _) (by omega) (by unfold maxLen; omega) (by omega) hbase w.heap.size rfl ?_
  intro g' gc' w' hown' hgrow hat _
  rw [cells_next] at hown'
  exact h g' gc' w' hown' hgrow hat
theorem step_append_known {ops : Array Oper} {o : Oper} {a : Act} {w : World} {K : Act → World → Prop} {Q : Exit → Act → World → Prop} {E : Prop} (hgd : o.guard = none) (s x : Operand)
    (ho : o.op = .call { callee := .builtin .append, args := #[s, x], argTypes := #[24, 24] }) (base k gc : Nat) (go : Option Addr) (f : Nat → Int) (hs : a.eval s = .slice go k gc) (hown : OwnA w base go k gc f) (B : Nat) (hx : a.eval x = .slice (some ⟨B, 0, none⟩) 1 1)
    (hB : w.heap[B]? = some (.cells #[.int .i64 (f (k * 3)), .int .i64 (f (k * 3 + 1)), .int .i64 (f (k * 3 + 2))] 37 (0, 0))) (hk : k ≤ 10000000) (hbase : base ≤ w.heap.size)
    (h : ∀ g' gc' w', OwnA w' base (some ⟨g', 0, none⟩) (k + 1) gc' f → w.grownBy w' (Value.slice go k gc).ownBlock → ((Value.slice go k gc).ownBlock = some g' ∨ g' = w.heap.size) → K (a.put o.dst (.slice (some ⟨g', 0, none⟩) (k + 1) gc')) w') :
    if Region.wanted o (yielded ops a.tmps) = true then Oper.wp Tryd.prog o a w K Q else E := by
  have hw : Region.wanted o (yielded ops a.tmps) = true := by simp [Region.wanted, hgd]
  rw [if_pos hw]
  exact wp_append_known s x ho base k gc go f hs hown B hx hB hk hbase h

/-- What is read, field by field. -/
def kOf (r : Option (Int × List Int)) : Int := match r with | some (K, _) => K | none => 0
def lOf (r : Option (Int × List Int)) : List Int := match r with | some (K, ns) => if K = 2 then ns else [] | none => []
def aOf (r : Option (Int × List Int)) (j : Nat) : Int := match r with | some (K, ns) => if K = 3 then ns.getD j 0 else 0 | none => 0
def tri (ns : List Int) : Nat → Int := ar (at3 ns 0) (at3 ns 1) (at3 ns 2)
/-- A command that is answered, and whether it is one. -/
def CAns (w w' : World) (e : Ending) (r : Option (Int × List Int)) : Prop :=
  ∃ ao cap, e = .returned (.tuple #[.agg #[.int .i64 (kOf r), .slice ao ((lOf r).length / 3) cap, .int .i64 (aOf r 0), .int .i64 (aOf r 1)], .bool r.isSome]) ∧ OwnS w' w.heap.size ao ((lOf r).length / 3) (tri (lOf r)) ∧ Below w.heap.size w w'
/-- Four cells in a box. -/
def c4 (v0 v1 v2 v3 : Value) (j : Nat) : Value := if j = 0 then v0 else if j = 1 then v1 else if j = 2 then v2 else v3
theorem c4_new (w : World) (v0 v1 v2 v3 : Value) (t : TypeId) : VHas (w.alloc (.cells #[v0, v1, v2, v3] t)) w.heap.size t 4 (c4 v0 v1 v2 v3) :=
  ⟨_, Go.Deep.blk_alloc_new _ _, by simp, fun j hj => by
    have : j = 0 ∨ j = 1 ∨ j = 2 ∨ j = 3 := by omega
    rcases this with rfl | rfl | rfl | rfl <;> rfl⟩
theorem c4_two (w : World) (v0 v1 v2 v3 u0 u1 u2 u3 : Value) (t : TypeId) :
    VHas ((w.alloc (.cells #[v0, v1, v2, v3] t)).alloc (.cells #[u0, u1, u2, u3] t)) w.heap.size t 4 (c4 v0 v1 v2 v3) ∧ VHas ((w.alloc (.cells #[v0, v1, v2, v3] t)).alloc (.cells #[u0, u1, u2, u3] t)) (w.heap.size + 1) t 4 (c4 u0 u1 u2 u3) ∧
    Below w.heap.size w ((w.alloc (.cells #[v0, v1, v2, v3] t)).alloc (.cells #[u0, u1, u2, u3] t)) ∧ ((w.alloc (.cells #[v0, v1, v2, v3] t)).alloc (.cells #[u0, u1, u2, u3] t)).heap.size = w.heap.size + 2 :=
  ⟨(c4_new w v0 v1 v2 v3 t).alloc _, by simpa only [World.size_alloc] using c4_new (w.alloc (.cells #[v0, v1, v2, v3] t)) u0 u1 u2 u3 t, ((Below.refl _ _).alloc (Nat.le_refl _) _).alloc (by simp) _, by simp⟩
/-- The four cells of a command's box, once it is filled. -/
theorem st4 {W : World} {b : Nat} {t : TypeId} {f : Nat → Value} (h : VHas W b t 4 f) (v0 v1 v2 v3 : Value) :
    ((((W.setCell ⟨b, 0, none⟩ v0).setCell ⟨b, 1, none⟩ v1).setCell ⟨b, 2, none⟩ v2).setCell ⟨b, 3, none⟩ v3).cell? ⟨b, 0, none⟩ = some v0 ∧ ((((W.setCell ⟨b, 0, none⟩ v0).setCell ⟨b, 1, none⟩ v1).setCell ⟨b, 2, none⟩ v2).setCell ⟨b, 3, none⟩ v3).cell? ⟨b, 1, none⟩ = some v1 ∧
    ((((W.setCell ⟨b, 0, none⟩ v0).setCell ⟨b, 1, none⟩ v1).setCell ⟨b, 2, none⟩ v2).setCell ⟨b, 3, none⟩ v3).cell? ⟨b, 2, none⟩ = some v2 ∧ ((((W.setCell ⟨b, 0, none⟩ v0).setCell ⟨b, 1, none⟩ v1).setCell ⟨b, 2, none⟩ v2).setCell ⟨b, 3, none⟩ v3).cell? ⟨b, 3, none⟩ = some v3 := by
  have u := (((h.set 0 v0).set 1 v1).set 2 v2).set 3 v3
  exact ⟨u.cell (j := 0) (by omega), u.cell (j := 1) (by omega), u.cell (j := 2) (by omega), u.cell (j := 3) (by omega)⟩
theorem st4_below {w W : World} {b : Nat} (h : Below w.heap.size w W) (hb : w.heap.size ≤ b) (v0 v1 v2 v3 : Value) : Below w.heap.size w ((((W.setCell ⟨b, 0, none⟩ v0).setCell ⟨b, 1, none⟩ v1).setCell ⟨b, 2, none⟩ v2).setCell ⟨b, 3, none⟩ v3) :=
  (((h.setCell (p := ⟨b, 0, none⟩) hb v0).setCell (p := ⟨b, 1, none⟩) hb v1).setCell (p := ⟨b, 2, none⟩) hb v2).setCell (p := ⟨b, 3, none⟩) hb v3
theorem st4_block (W : World) {b x : Nat} (h : x ≠ b) (v0 v1 v2 v3 : Value) : ((((W.setCell ⟨b, 0, none⟩ v0).setCell ⟨b, 1, none⟩ v1).setCell ⟨b, 2, none⟩ v2).setCell ⟨b, 3, none⟩ v3).heap[x]? = W.heap[x]? := by
  rw [Below.heap_setCell _ _ _ _ (by simpa using h), Below.heap_setCell _ _ _ _ (by simpa using h), Below.heap_setCell _ _ _ _ (by simpa using h), Below.heap_setCell _ _ _ _ (by simpa using h)]
theorem OwnS.of_st4 {W : World} {B b n : Nat} {ao : Option Addr} {f : Nat → Int} (h : OwnS W B ao n f) (hb : 0 < n → ∀ a, ao = some a → a.block ≠ b) (v0 v1 v2 v3 : Value) : OwnS ((((W.setCell ⟨b, 0, none⟩ v0).setCell ⟨b, 1, none⟩ v1).setCell ⟨b, 2, none⟩ v2).setCell ⟨b, 3, none⟩ v3) B ao n f := fun k hk => by
  obtain ⟨g, e, hB, hh⟩ := h k hk
  exact ⟨g, e, hB, hh.of_block (st4_block W (hb (by omega) _ e) v0 v1 v2 v3)⟩
theorem OwnS.nxt {W W' : World} {B n : Nat} {ao : Option Addr} {f : Nat → Int} (h : OwnS W B ao n f) (hb : Below W.heap.size W W') : OwnS W' B ao n f := fun k hk => by
  obtain ⟨g, e, hB, hh⟩ := h k hk
  exact ⟨g, e, hB, hh.below hb hh.lt⟩
theorem OwnS.from {W : World} {B B' n : Nat} {ao : Option Addr} {f : Nat → Int} (h : OwnS W B ao n f) (hb : B' ≤ B) : OwnS W B' ao n f := fun k hk => by
  obtain ⟨g, e, hB, hh⟩ := h k hk
  exact ⟨g, e, by omega, hh⟩
theorem owns_none (W : World) (B : Nat) (ao : Option Addr) (f : Nat → Int) : OwnS W B ao 0 f := fun k hk => by omega
theorem cans_ask {w w' : World} {x y : Int} (hB : Below w.heap.size w w') : CAns w w' (.returned (.tuple #[.agg #[.int .i64 3, .slice none 0 0, .int .i64 x, .int .i64 y], .bool true])) (some (3, [x, y])) :=
  ⟨none, 0, by simp [kOf, lOf, aOf], by simp [lOf]; exact owns_none _ _ _ _, hB⟩
theorem cans_weigh {w w' : World} {ns : List Int} {ao : Option Addr} {n cap : Nat} (hn : ns.length / 3 = n) (hO : OwnS w' w.heap.size ao n (tri ns)) (hB : Below w.heap.size w w') : CAns w w' (.returned (.tuple #[.agg #[.int .i64 2, .slice ao n cap, .int .i64 0, .int .i64 0], .bool true])) (some (2, ns)) :=
  ⟨ao, cap, by simp [kOf, lOf, aOf, hn], by simp [lOf, hn]; exact hO, hB⟩
theorem tri0 (ns : List Int) (k : Nat) : tri ns (k * 3) = ns.getD (3 * k) 0 := by unfold tri; rw [ar0]; rfl
theorem tri1 (ns : List Int) (k : Nat) : tri ns (k * 3 + 1) = ns.getD (3 * k + 1) 0 := by unfold tri; rw [ar1]; rfl
theorem tri2 (ns : List Int) (k : Nat) : tri ns (k * 3 + 2) = ns.getD (3 * k + 2) 0 := by unfold tri; rw [ar2]; rfl

end Go.Proofs.YtcmeppjfjledfaaDoor

/-
  strings.SplitN of a map's text: at most 302 pieces between blanks.
-/
set_option linter.unusedVariables false
set_option linter.unusedSimpArgs false
namespace Go.Proofs.YtcmeppjfjledfaaDoor
open Go.RowKit

theorem cellsOf_at {L : List ByteArray} {N j : Nat} (h : j < L.length) : (Lib.cellsOf L N)[j]? = some (.string L[j]) := by
  unfold Lib.cellsOf
  simp only [List.getElem?_toArray]
  rw [List.getElem?_append_left (by simpa using h)]
  simp [h]
theorem split_small : ∀ (k : Nat) (s x : ByteArray), x ∈ Lib.splitB ⟨#[32]⟩ 0 k s → x.size ≤ s.size
  | 0, s, x, h => by simp [Lib.splitB] at h; subst h; exact Nat.le_refl _
  | k + 1, s, x, h => by
    unfold Lib.splitB at h
    split at h
    · simp at h; subst h; exact Nat.le_refl _
    · rcases List.mem_cons.1 h with rfl | h
      · simp [ByteArray.size_extract]; omega
      · have := split_small k _ x h
        simp [ByteArray.size_extract] at this
        omega
theorem splitN_any (s : ByteArray) (hs : s.size ≤ 1048576) (m : Int) (w : World) (hM : w.cell? ⟨1, 0, none⟩ = some (.int .i64 m)) :
    Calls Tryd.prog 21 #[.string s, .string ⟨#[32]⟩, .int .i64 302] w fun e w' => ∃ (L : List ByteArray) (g gc : Nat), e = .returned (.slice (some ⟨g, 0, none⟩) L.length gc) ∧ Hid (L.map (·.data.toList) = Lib.splitK [32] 0 (min 302 (s.data.toList.length + 1) - 1) s.data.toList) ∧ THas w' g L ∧ w.heap.size ≤ g ∧ (∀ x ∈ L, x.size ≤ 1048576) ∧ Below w.heap.size w w' := by
  refine (Tryd.strings_SplitN s ⟨#[32]⟩ 302 m w (by omega) hM (by decide) (by omega) (by omega)).mono ?_
  rintro e w1 ⟨rfl, rfl⟩
  refine ⟨_, w.heap.size, _, rfl, ?_, ⟨by simp, fun j hj => ?_⟩, Nat.le_refl _, fun x hx => Nat.le_trans (split_small _ _ _ hx) hs, (Below.refl _ _).alloc (Nat.le_refl _) _⟩
  · show _ = _
    rw [Lib.splitB_data]
    rfl
  · have h := cellsOf_at (N := min 302 (s.size + 1)) hj
    have hb := Go.Deep.blk_alloc_new w (.cells (Lib.cellsOf (Lib.splitB ⟨#[32]⟩ 0 (min 302 (s.size + 1) - 1) s) (min 302 (s.size + 1))) 9)
    unfold World.cell?
    rw [hb]
    exact h

end Go.Proofs.YtcmeppjfjledfaaDoor

/-
  Lists of numbers of the call's own that grow by one: the law for the walk.
-/
set_option linter.unusedVariables false
set_option linter.unusedSimpArgs false
namespace Go.Proofs.YtcmeppjfjledfaaDoor
open Go.RowKit

def icells (f : Nat → Int) (n : Nat) : List Value := (List.range n).map fun j => .int .i64 (f j)
theorem icells_at {f : Nat → Int} {n j : Nat} (hj : j < n) : (icells f n)[j]? = some (.int .i64 (f j)) := by
  rw [icells, List.getElem?_map, List.getElem?_range hj]; rfl
theorem icells_len (f : Nat → Int) (n : Nat) : (icells f n).length = n := by simp [icells]
theorem icells_congr {f g : Nat → Int} {n : Nat} (h : ∀ j, j < n → f j = g j) : icells f n = icells g n := by
  apply List.ext_getElem?
  intro j
  by_cases hj : j < n
  · rw [icells_at hj, icells_at hj, h j hj]
  · rw [List.getElem?_eq_none (by rw [icells_len]; omega), List.getElem?_eq_none (by rw [icells_len]; omega)]
theorem icells_put {f g : Nat → Int} {n : Nat} (v : Int) (h1 : ∀ j, j < n → f j = g j) (h2 : g n = v) : icells f n ++ [.int .i64 v] = icells g (n + 1) := by
  rw [icells_congr h1]
  simp [icells, List.range_succ, h2]

/-- n numbers in a block of the call's own, from block base on, with room for cap of them. -/
def IOwn (w : World) (base g cap n : Nat) (f : Nat → Int) : Prop := w.ownsRow base 2 1 (.slice (some ⟨g, 0, none⟩) n cap) n (icells f n)
theorem IOwn.has {w : World} {base g cap n : Nat} {f : Nat → Int} (h : IOwn w base g cap n f) : IHas w g n f := by
  obtain ⟨hl, h0 | ⟨g', cap', cur, hv, hb, hh, h1, h2, h3, h4⟩⟩ := h
  · simp at h0
  · simp at hv
    obtain ⟨rfl, rfl⟩ := hv
    refine ⟨cur, hh, by omega, fun j hj => ?_⟩
    have : (cur.toList.take (n * 1))[j]? = (icells f n)[j]? := by rw [h4]
    rw [List.getElem?_take_of_lt (by omega), icells_at hj] at this
    simpa using this
theorem IOwn.base {w : World} {base g cap n : Nat} {f : Nat → Int} (h : IOwn w base g cap n f) : base ≤ g := (World.ownsRow.lt h g rfl).1
theorem IOwn.congr {w : World} {base g cap n : Nat} {f f' : Nat → Int} (h : IOwn w base g cap n f) (e : ∀ j, j < n → f j = f' j) : IOwn w base g cap n f' := by
  unfold IOwn at h ⊢
  rw [← icells_congr e]; exact h
theorem IOwn.below {w w' : World} {base g cap n B : Nat} {f : Nat → Int} (h : IOwn w base g cap n f) (hb : Below B w w') (hB : g < B) : IOwn w' base g cap n f := by
  refine ⟨h.1, ?_⟩
  rcases h.2 with hn | ⟨g', cap', cur, hv, hb', hgg, rest⟩
  · exact .inl hn
  · simp at hv
    obtain ⟨rfl, rfl⟩ := hv
    exact .inr ⟨g, cap, cur, rfl, hb', (hb.block g hB).trans hgg, rest⟩
theorem IOwn.lt {w : World} {base g cap n : Nat} {f : Nat → Int} (h : IOwn w base g cap n f) : g < w.heap.size := (World.ownsRow.lt h g rfl).2
theorem IOwn.grown {w w' : World} {base g cap n : Nat} {f : Nat → Int} {b : Nat} (h : IOwn w base g cap n f) (hg : w.grownBy w' (some b)) (hne : g ≠ b) : IOwn w' base g cap n f := by
  refine ⟨h.1, ?_⟩
  rcases h.2 with hn | ⟨g', cap', cur, hv, hb', hgg, rest⟩
  · exact .inl hn
  · simp at hv
    obtain ⟨rfl, rfl⟩ := hv
    exact .inr ⟨g, cap, cur, rfl, hb', (hg.block g h.lt (by simp; exact hne)).trans hgg, rest⟩

theorem IOwn.room {w : World} {base g cap n : Nat} {f : Nat → Int} (h : IOwn w base g cap n f) : n ≤ cap := by
  obtain ⟨hl, h0 | ⟨g', cap', cur, hv, hb, hh, h1, h2, h3, h4⟩⟩ := h
  · simp at h0
  · simp at hv
    omega
/-- A new empty list. -/
theorem IOwn.empty (w : World) {base : Nat} (hb : base ≤ w.heap.size) (f : Nat → Int) : IOwn (w.alloc (.cells #[] 2)) base w.heap.size 0 0 f := by
  have := World.ownsRow_lit (base := base) (e := 2) (size := 1) w #[] 0 hb (by simp) (by simp)
  simpa [IOwn, icells] using this

theorem wpList_append_int {w : World} {ops : Array Oper} {rest : List Oper} {o : Oper} {a : Act} {Q : Exit → Act → World → Prop} (hgd : o.guard = none) (s x : Operand)
    (ho : o.op = .call { callee := .builtin .append, args := #[s, x], argTypes := #[45, 45] }) (base g cap n : Nat) (f : Nat → Int) (hs : a.eval s = .slice (some ⟨g, 0, none⟩) n cap)
    (hown : IOwn w base g cap n f) (ad : Addr) (c : Nat) (v : Int) (hx : a.eval x = .slice (some ad) 1 c) (h0 : w.cell? (ad.add 0) = some (.int .i64 v)) (hn : n ≤ 1000000000) (hbase : base ≤ w.heap.size)
    (h : ∀ g' cap' w', (∀ f', (∀ j, j < n → f' j = f j) → f' n = v → IOwn w' base g' cap' (n + 1) f') → w.grownBy w' (some g) → (g' = g ∨ g' = w.heap.size) → wpList Tryd.prog ops Q rest (a.put o.dst (.slice (some ⟨g', 0, none⟩) (n + 1) cap')) w') : wpList Tryd.prog ops Q (o :: rest) a w := by
  obtain ⟨i, hi, hz0, hz1, hz2⟩ := info_parts Tryd.infoInt
  refine wpList_append_lies w hgd s x 45 ho base 2 i _ 1 8 Tryd.underlying45 hi hz0 hz1 hz2 rfl (by omega) _ n (icells f n) hs hown ad 1 c [.int .i64 v] hx rfl ?_ ?_ (by omega) (by unfold maxLen; omega) (by omega) hbase w.heap.size rfl ?_
  · intro j u hu
    match j, hu with
    | 0, hu => simp at hu; subst hu; exact h0
    | j + 1, hu => simp at hu
  · intro u hu
    simp at hu
    subst hu; rfl
  · intro g' cap' w' hown' hgrow hat hlt
    refine h g' cap' w' (fun f' e1 e2 => ?_) hgrow ?_
    · rw [icells_put v (fun j hj => (e1 j hj).symm) e2] at hown'
      exact hown'
    · rcases hat with e | e
      · simp [Value.ownBlock] at e; exact Or.inl e.symm
      · exact Or.inr e

end Go.Proofs.YtcmeppjfjledfaaDoor

/-
  The document's numbers of a text: one number; all of them, in new memory.
-/
set_option linter.unusedVariables false
set_option linter.unusedSimpArgs false
namespace Go.Proofs.YtcmeppjfjledfaaDoor
open Go.RowKit
attribute [local go_sem ↓] Go.wp_at_zero Go.wp_at_succ

def ret2 (v : Option Int) : Value := .tuple #[.int .i64 (v.getD 0), .bool v.isSome]
theorem toL (s : ByteArray) (k : Nat) (h : k < s.size) : s.data.toList[k]? = some s[k] := by
  rw [List.getElem?_eq_getElem (by simpa using h)]
  rfl
theorem take_nx {s : ByteArray} {d : List UInt8} {o j : Nat} (HT : Hid (∀ j (h : o + j < s.size), d[j]? = some s[o + j])) (h : o + j < s.size) : d.take (j + 1) = d.take j ++ [s[o + j]] := by
  rw [List.take_add_one, HT.out j h]
  rfl
theorem take_nx0 {s : ByteArray} {d : List UInt8} {j : Nat} (HT : Hid (∀ j (h : j < s.size), d[j]? = some s[j])) (h : j < s.size) : d.take (j + 1) = d.take j ++ [s[j]] := by
  rw [List.take_add_one, HT.out j h]
  rfl
theorem drop_at (s : ByteArray) (o j : Nat) (h : o + j < s.size) : (s.data.toList.drop o)[j]? = some s[o + j] := by
  rw [List.getElem?_drop]
  exact toL s (o + j) h
theorem take_next (s : ByteArray) (o j : Nat) (h : o + j < s.size) : (s.data.toList.drop o).take (j + 1) = (s.data.toList.drop o).take j ++ [s[o + j]] := by
  rw [List.take_add_one, drop_at s o j h]
  rfl
theorem isD_iff {c : UInt8} : isD c = true ↔ 48 ≤ (c.toNat : Int) ∧ (c.toNat : Int) ≤ 57 := by simp [isD]; omega
theorem all_no {l : List UInt8} {j : Nat} {c : UInt8} (h : l[j]? = some c) (hc : isD c = false) : l.all isD = false := by
  rw [List.all_eq_false]
  exact ⟨c, List.mem_of_getElem? h, by simp [hc]⟩
theorem pow10_le {j : Nat} (h : j ≤ 9) : (10 : Int) ^ j ≤ 1000000000 := by
  have : j = 0 ∨ j = 1 ∨ j = 2 ∨ j = 3 ∨ j = 4 ∨ j = 5 ∨ j = 6 ∨ j = 7 ∨ j = 8 ∨ j = 9 := by omega
  rcases this with rfl | rfl | rfl | rfl | rfl | rfl | rfl | rfl | rfl | rfl <;> decide
theorem val_lt : ∀ (l : List UInt8) (n : Int), l.all isD = true → 0 ≤ n → l.foldl (fun n c => n * 10 + dg c) n < (n + 1) * (10 : Int) ^ l.length
  | [], n, _, _ => by simp; omega
  | c :: t, n, h, h0 => by
    simp at h
    have hd := dg_bd h.1
    have h2 := val_lt t (n * 10 + dg c) (by simpa using h.2) (by omega)
    simp only [List.foldl_cons, List.length_cons]
    have hp : (0 : Int) ≤ (10 : Int) ^ t.length := Int.pow_nonneg (by decide)
    have e2 : (n + 1) * (10 : Int) ^ (t.length + 1) = ((n + 1) * 10) * (10 : Int) ^ t.length := by rw [Int.pow_succ, Int.mul_comm ((10 : Int) ^ t.length) 10, ← Int.mul_assoc]
    have m2 : (n * 10 + dg c + 1) * (10 : Int) ^ t.length ≤ ((n + 1) * 10) * (10 : Int) ^ t.length := Int.mul_le_mul_of_nonneg_right (by omega) hp
    rw [e2]
    omega
theorem val_bd {l : List UInt8} (h : l.all isD = true) (hl : l.length ≤ 9) : 0 ≤ val l ∧ val l < 1000000000 := by
  have h1 := val_lt l 0 h (Int.le_refl _)
  have h2 := pow10_le hl
  have h0 := val_nonneg h
  unfold val at h0 ⊢
  omega
theorem ret_tup {a b : Option Int} (h : a = b) : Ending.returned (ret2 a) = .returned (ret2 b) := by rw [h]
set_option maxHeartbeats 2000000 in
set_option maxRecDepth 20000 in
theorem l1Number_neg (s : ByteArray) (hs : s.size ≤ 1048576) (hne : 0 < s.size) (h45 : s[0] = 45) (d : List UInt8) (HL : Hid (d.length = s.size - 1)) (HT : Hid (∀ j (h : 1 + j < s.size), d[j]? = some s[1 + j])) (w : World) :
    Calls Tryd.prog 43 #[.string s] w fun e w' => e = .returned (ret2 (numD true d)) ∧ w' = w := by
  have hse : s.toList.isEmpty = false := by
    rw [ByteArray.toList_eq, List.isEmpty_eq_false_iff]
    intro e
    have h0 : s.data.toList.length = 0 := by rw [e]; rfl
    have h9 : s.data.toList.length = s.size := by simp
    omega
  have hc0 : (s[0].toNat : Int) = 45 := by
    rw [h45]; rfl
  by_cases hsh : s.size - 1 < 1 ∨ 9 < s.size - 1
  · have hn : numD true d = none := by
      unfold numD
      rw [if_pos (by rw [HL.out]; omega)]
    rw [hn]
    rcases hsh with hsh | hsh
    · have h1 : (s.size : Int) - 1 < 1 := by omega
      go_enter Tryd.func43, Tryd.ntmps43
      go_wp2
      go_ret2
      exact ⟨rfl, rfl⟩
    · have h1 : ¬ (s.size : Int) - 1 < 1 := by omega
      have h2 : 9 < (s.size : Int) - 1 := by omega
      go_enter Tryd.func43, Tryd.ntmps43
      go_wp2
      go_ret2
      exact ⟨rfl, rfl⟩
  have h1 : ¬ (s.size : Int) - 1 < 1 := by omega
  have h2 : ¬ 9 < (s.size : Int) - 1 := by omega
  go_enter Tryd.func43, Tryd.ntmps43
  go_wp2
  go_loop [6, 7] (fun n k => ∃ j : Nat, 1 + j ≤ s.size ∧ k = .int .i64 (((1 + j : Nat)) : Int) ∧ (d.take j).all isD = true ∧ n = .int .i64 (val (d.take j))) (fun _ k => s.size - (intOf k).toNat)
  case atStart => exact ⟨0, by omega, rfl, by simp, by simp [val]⟩
  case round =>
    obtain ⟨j, hj, rfl, hall, rfl⟩ := hrel
    obtain ⟨v0, v1⟩ := val_bd hall (by rw [List.length_take, HL.out]; omega)
    have HA : Hid ((d.take j).all isD = true) := hall
    clear hall
    by_cases hlt : 1 + j < s.size
    · have hc : s[1 + j].toNat < 256 := s[1 + j].toNat_lt
      have hlt' : ((1 + j : Nat) : Int) < (s.size : Int) := by omega
      have hk0 : (0 : Int) ≤ ((1 + j : Nat) : Int) := by omega
      cases hd : isD s[1 + j] with
      | true =>
        obtain ⟨d1, d2⟩ := isD_iff.1 hd
        have e1 := take_nx HT hlt
        have HV : Hid (val (d.take (j + 1)) = val (d.take j) * 10 + ((s[1 + j].toNat : Int) - 48)) := by
          show _ = _
          rw [e1, val_snoc]
          rfl
        have HB : Hid ((d.take (j + 1)).all isD = true) := by
          show _ = _
          rw [e1]
          exact all_snoc.2 ⟨HA.out, hd⟩
        clear e1
        go_wp2
        go_round
        case rel => exact ⟨j + 1, by omega, by go_num, HB.out, by rw [HV.out]⟩
        case measure => simp [intOf]; omega
      | false =>
        have hn : numD true d = none := by
          unfold numD
          split
          · rfl
          rw [if_pos (all_no (HT.out j hlt) hd)]
        have HN : Hid (numD true d = none) := hn
        clear hn
        by_cases c1 : (s[1 + j].toNat : Int) < 48
        · go_wp2
          go_ret2
          exact ⟨by rw [HN.out]; rfl, rfl⟩
        · have c2 : 57 < (s[1 + j].toNat : Int) := by
            by_cases h : (s[1 + j].toNat : Int) ≤ 57
            · rw [isD_iff.2 ⟨by omega, h⟩] at hd
              cases hd
            · omega
          go_wp2
          go_ret2
          exact ⟨by rw [HN.out]; rfl, rfl⟩
    · have ht : d.take j = d := List.take_of_length_le (by rw [HL.out]; omega)
      have hh : d.head? = some s[1] := by
        rw [List.head?_eq_getElem?]
        exact HT.out 0 (by omega)
      have hall := HA.out
      rw [ht] at v0 v1 hall ⊢
      have HNN : Hid (numD true d = if s[1] = 48 ∧ (true = true ∨ 1 < s.size - 1) then none else some (if true = true then - val d else val d)) := by
        show _ = _
        unfold numD
        rw [if_neg (by rw [HL.out]; omega), if_neg (by rw [hall]; simp), hh, HL.out]
        simp
      have hlt' : ¬ ((1 + j : Nat) : Int) < (s.size : Int) := by omega
      have hc : s[1].toNat < 256 := s[1].toNat_lt
      clear ht HA hh hall
      by_cases h48 : s[1] = 48
      · have hz : (s[1].toNat : Int) = 48 := by rw [h48]; rfl
        go_wp2
        go_ret2
        exact ⟨by rw [HNN.out, if_pos (by simp [h48])]; rfl, rfl⟩
      · have hz : ¬ (s[1].toNat : Int) = 48 := fun e => h48 (UInt8.toNat_inj.1 (by simp; omega))
        have hz' : ((s[1].toNat : Int) == 48) = false := by simpa using hz
        go_wp2
        go_ret2
        exact ⟨by rw [HNN.out, if_neg (fun e => h48 e.1)]; rfl, rfl⟩
set_option maxHeartbeats 2000000 in
set_option maxRecDepth 20000 in
theorem l1Number_pos (s : ByteArray) (hs : s.size ≤ 1048576) (hne : 0 < s.size) (h45 : s[0] ≠ 45) (d : List UInt8) (HL : Hid (d.length = s.size - 0)) (HT : Hid (∀ j (h : j < s.size), d[j]? = some s[j])) (w : World) :
    Calls Tryd.prog 43 #[.string s] w fun e w' => e = .returned (ret2 (numD false d)) ∧ w' = w := by
  have hse : s.toList.isEmpty = false := by
    rw [ByteArray.toList_eq, List.isEmpty_eq_false_iff]
    intro e
    have h0 : s.data.toList.length = 0 := by rw [e]; rfl
    have h9 : s.data.toList.length = s.size := by simp
    omega
  have hc0 : (s[0].toNat : Int) ≠ 45 := by
    intro e; exact h45 (UInt8.toNat_inj.1 (by simp; omega))
  have hc0b : ((s[0].toNat : Int) == 45) = false := by simpa using hc0
  by_cases hsh : s.size - 0 < 1 ∨ 9 < s.size - 0
  · have hn : numD false d = none := by
      unfold numD
      rw [if_pos (by rw [HL.out]; omega)]
    rw [hn]
    rcases hsh with hsh | hsh
    · have h1 : (s.size : Int) < 1 := by omega
      go_enter Tryd.func43, Tryd.ntmps43
      go_wp2
      go_ret2
      exact ⟨rfl, rfl⟩
    · have h1 : ¬ (s.size : Int) < 1 := by omega
      have h2 : 9 < (s.size : Int) := by omega
      go_enter Tryd.func43, Tryd.ntmps43
      go_wp2
      go_ret2
      exact ⟨rfl, rfl⟩
  have h1 : ¬ (s.size : Int) < 1 := by omega
  have h2 : ¬ 9 < (s.size : Int) := by omega
  go_enter Tryd.func43, Tryd.ntmps43
  go_wp2
  go_loop [6, 7] (fun n k => ∃ j : Nat, j ≤ s.size ∧ k = .int .i64 (j : Int) ∧ (d.take j).all isD = true ∧ n = .int .i64 (val (d.take j))) (fun _ k => s.size - (intOf k).toNat)
  case atStart => exact ⟨0, by omega, rfl, by simp, by simp [val]⟩
  case round =>
    obtain ⟨j, hj, rfl, hall, rfl⟩ := hrel
    obtain ⟨v0, v1⟩ := val_bd hall (by rw [List.length_take, HL.out]; omega)
    have HA : Hid ((d.take j).all isD = true) := hall
    clear hall
    by_cases hlt : j < s.size
    · have hc : s[j].toNat < 256 := s[j].toNat_lt
      have hlt' : ((j : Nat) : Int) < (s.size : Int) := by omega
      have hk0 : (0 : Int) ≤ ((j : Nat) : Int) := by omega
      cases hd : isD s[j] with
      | true =>
        obtain ⟨d1, d2⟩ := isD_iff.1 hd
        have e1 := take_nx0 HT hlt
        have HV : Hid (val (d.take (j + 1)) = val (d.take j) * 10 + ((s[j].toNat : Int) - 48)) := by
          show _ = _
          rw [e1, val_snoc]
          rfl
        have HB : Hid ((d.take (j + 1)).all isD = true) := by
          show _ = _
          rw [e1]
          exact all_snoc.2 ⟨HA.out, hd⟩
        clear e1
        go_wp2
        go_round
        case rel => exact ⟨j + 1, by omega, by go_num, HB.out, by rw [HV.out]⟩
        case measure => simp [intOf]; omega
      | false =>
        have hn : numD false d = none := by
          unfold numD
          split
          · rfl
          rw [if_pos (all_no (HT.out j hlt) hd)]
        have HN : Hid (numD false d = none) := hn
        clear hn
        by_cases c1 : (s[j].toNat : Int) < 48
        · go_wp2
          go_ret2
          exact ⟨by rw [HN.out]; rfl, rfl⟩
        · have c2 : 57 < (s[j].toNat : Int) := by
            by_cases h : (s[j].toNat : Int) ≤ 57
            · rw [isD_iff.2 ⟨by omega, h⟩] at hd
              cases hd
            · omega
          go_wp2
          go_ret2
          exact ⟨by rw [HN.out]; rfl, rfl⟩
    · have ht : d.take j = d := List.take_of_length_le (by rw [HL.out]; omega)
      have hh : d.head? = some s[0] := by
        rw [List.head?_eq_getElem?]
        exact HT.out 0 (by omega)
      have hall := HA.out
      rw [ht] at v0 v1 hall ⊢
      have HNN : Hid (numD false d = if s[0] = 48 ∧ (false = true ∨ 1 < s.size - 0) then none else some (if false = true then - val d else val d)) := by
        show _ = _
        unfold numD
        rw [if_neg (by rw [HL.out]; omega), if_neg (by rw [hall]; simp), hh, HL.out]
        simp
      have hlt' : ¬ ((j : Nat) : Int) < (s.size : Int) := by omega
      have hc : s[0].toNat < 256 := s[0].toNat_lt
      clear ht HA hh hall
      by_cases h48 : s[0] = 48
      · have hz : (s[0].toNat : Int) = 48 := by rw [h48]; rfl
        by_cases hl1 : 1 < s.size
        · have hl1' : (1 : Int) < (s.size : Int) := by omega
          go_wp2
          go_ret2
          exact ⟨by rw [HNN.out, if_pos ⟨h48, .inr (by omega)⟩]; rfl, rfl⟩
        · have hl1' : ¬ (1 : Int) < (s.size : Int) := by omega
          go_wp2
          go_ret2
          exact ⟨by rw [HNN.out, if_neg (by rintro ⟨_, h | h⟩; cases h; omega)]; rfl, rfl⟩
      · have hz : ¬ (s[0].toNat : Int) = 48 := fun e => h48 (UInt8.toNat_inj.1 (by simp; omega))
        have hz' : ((s[0].toNat : Int) == 48) = false := by simpa using hz
        go_wp2
        go_ret2
        exact ⟨by rw [HNN.out, if_neg (fun e => h48 e.1)]; rfl, rfl⟩
theorem head0 (s : ByteArray) (h : 0 < s.size) : s.data.toList.head? = some s[0] := by
  rw [List.head?_eq_getElem?]
  exact toL s 0 h
theorem l1Number_any (s : ByteArray) (hs : s.size ≤ 1048576) (w : World) :
    Calls Tryd.prog 43 #[.string s] w fun e w' => e = .returned (ret2 (num1 s.data.toList)) ∧ w' = w := by
  by_cases hne : 0 < s.size
  · by_cases h45 : s[0] = 45
    · have e : num1 s.data.toList = numD true (s.data.toList.drop 1) := by
        unfold num1
        rw [if_pos (by rw [head0 s hne, h45]), ← List.drop_one]
      rw [e]
      exact l1Number_neg s hs hne h45 _ (by show _ = _; simp) (fun j h => drop_at s 1 j h) w
    · have e : num1 s.data.toList = numD false (s.data.toList.drop 0) := by
        unfold num1
        rw [if_neg (by rw [head0 s hne]; simpa using h45), List.drop_zero]
      rw [e]
      exact l1Number_pos s hs hne h45 _ (by show _ = _; simp) (fun j h => by rw [List.drop_zero]; exact toL s j h) w
  · have hz : s.size = 0 := by omega
    have hl : s.data.toList = [] := List.eq_nil_of_length_eq_zero (by simpa using hz)
    have hse : s = (⟨#[]⟩ : ByteArray) := by
      apply ByteArray.ext
      apply Array.ext'
      simpa using hl
    rw [hl, num1_nil]
    subst hse
    go_enter Tryd.func43, Tryd.ntmps43
    go_wp2
    go_ret2
    exact ⟨rfl, rfl⟩

end Go.Proofs.YtcmeppjfjledfaaDoor

/-
  The document's numbers of a text, all of them: a list of the call's own.
-/
set_option linter.unusedVariables false
set_option linter.unusedSimpArgs false
namespace Go.Proofs.YtcmeppjfjledfaaDoor
open Go.RowKit
attribute [local go_sem ↓] Go.wp_at_zero Go.wp_at_succ

def gd (ns : List Int) (j : Nat) : Int := ns.getD j 0
theorem gd_snoc_lt {ns : List Int} {n : Int} {j : Nat} (h : j < ns.length) : gd (ns ++ [n]) j = gd ns j := by
  simp [gd, List.getElem?_append_left h]
theorem gd_snoc_at (ns : List Int) (n : Int) : gd (ns ++ [n]) ns.length = n := by simp [gd]
theorem extract_list (s : ByteArray) (a b : Nat) : (s.extract a b).data.toList = (s.data.toList.drop a).take (b - a) := by
  simp [ByteArray.data_extract, List.extract]
theorem drop_cons (s : ByteArray) (i : Nat) (h : i < s.size) : s.data.toList.drop i = s[i] :: s.data.toList.drop (i + 1) := by
  rw [List.drop_eq_getElem_cons (by simpa using h)]
  rfl
theorem cur_next (s : ByteArray) {fr i : Nat} (h : fr ≤ i) (hi : i < s.size) : (s.data.toList.drop fr).take (i + 1 - fr) = (s.data.toList.drop fr).take (i - fr) ++ [s[i]] := by
  obtain ⟨j, rfl⟩ : ∃ j, i = fr + j := ⟨i - fr, by omega⟩
  rw [show fr + j + 1 - fr = j + 1 by omega, show fr + j - fr = j by omega]
  exact take_next s fr j hi
/-- Where the reading stands at byte i: the word from fr on, the numbers ahead of it. -/
def Stand (s : ByteArray) (T : Option (List Int)) (i fr : Nat) (ns : List Int) : Prop :=
  (i ≤ s.size ∧ fr ≤ i ∧ snums (s.data.toList.drop i) ns ((s.data.toList.drop fr).take (i - fr)) = T) ∨ (i = s.size + 1 ∧ T = some ns)
theorem Stand.on {s : ByteArray} {T : Option (List Int)} {i fr : Nat} {ns : List Int} (h : Stand s T i fr ns) (hi : i < s.size) (hc : s[i] ≠ 32) : Stand s T (i + 1) fr ns := by
  rcases h with ⟨h1, h2, h3⟩ | ⟨h1, _⟩
  · refine .inl ⟨by omega, by omega, ?_⟩
    rw [cur_next s h2 hi, ← h3, drop_cons s i hi]
    simp [snums, hc]
  · omega
theorem Stand.word {s : ByteArray} {T : Option (List Int)} {i fr : Nat} {ns : List Int} (h : Stand s T i fr ns) (hi : i ≤ s.size) (hc : (hi : i < s.size) → s[i] = 32) :
    (∀ n, num1 ((s.data.toList.drop fr).take (i - fr)) = some n → Stand s T (i + 1) (i + 1) (ns ++ [n])) ∧ (num1 ((s.data.toList.drop fr).take (i - fr)) = none → T = none) := by
  rcases h with ⟨h1, h2, h3⟩ | ⟨h1, _⟩
  · by_cases hlt : i < s.size
    · rw [drop_cons s i hlt, hc hlt] at h3
      constructor
      · intro n hn
        refine .inl ⟨by omega, Nat.le_refl _, ?_⟩
        rw [← h3]
        simp [snums, hn]
      · intro hn
        rw [← h3]
        simp [snums, hn]
    · have he : i = s.size := by omega
      have hd : s.data.toList.drop i = [] := List.drop_eq_nil_of_le (by simp; omega)
      rw [hd] at h3
      constructor
      · intro n hn
        refine .inr ⟨by omega, ?_⟩
        rw [← h3]
        simp [snums, hn]
      · intro hn
        rw [← h3]
        simp [snums, hn]
  · omega

/-- A list of numbers that is answered, and whether it is one. -/
def NAns (w w' : World) (e : Ending) (T : Option (List Int)) : Prop :=
  ∃ (ns : List Int) (ok : Bool) (g cap : Nat), e = .returned (.tuple #[.slice (some ⟨g, 0, none⟩) ns.length cap, .bool ok]) ∧ ((ok = true ∧ T = some ns) ∨ (ok = false ∧ T = none)) ∧ ns.length ≤ 1048577 ∧ IOwn w' w.heap.size g cap ns.length (gd ns) ∧ Below w.heap.size w w'

set_option maxHeartbeats 2000000 in
set_option maxRecDepth 20000 in
theorem l1Numbers_any (s : ByteArray) (hs : s.size ≤ 1048576) (w : World) :
    Calls Tryd.prog 28 #[.string s] w fun e w' => NAns w w' e (snums s.data.toList [] []) := by
  have HS0 : Hid (Stand s (snums s.data.toList [] []) 0 0 []) := .inl ⟨by omega, Nat.le_refl _, by simp⟩
  generalize snums s.data.toList [] [] = T at HS0 ⊢
  have hO0 : IOwn (w.alloc (.cells #[] 2)) w.heap.size w.heap.size 0 0 (gd []) := IOwn.empty w (Nat.le_refl _) _
  go_enter Tryd.func28, Tryd.ntmps28
  go_wp2
  go_loopw [4, 5, 6] (fun o f x wr => ∃ (i fr g c : Nat) (ns : List Int), i ≤ s.size + 1 ∧ fr ≤ i ∧ ns.length ≤ i ∧ x = .int .i64 i ∧ f = .int .i64 fr ∧ o = .slice (some ⟨g, 0, none⟩) ns.length c ∧ Hid (Stand s T i fr ns) ∧ IOwn wr w.heap.size g c ns.length (gd ns) ∧ Below w.heap.size w wr) (fun _ _ x _ => s.size + 1 - (intOf x).toNat)
  case atStart => exact ⟨0, 0, w.heap.size, 0, [], by omega, Nat.le_refl _, Nat.le_refl _, rfl, rfl, rfl, HS0, hO0, (Below.refl _ _).alloc (Nat.le_refl _) _⟩
  case round =>
    clear hO0 HS0
    obtain ⟨i, fr, g, c, ns, hi, hfr, hln, rfl, rfl, rfl, HS, hown, hbel⟩ := hrel
    have hgl := hown.lt
    have hgb := hown.base
    by_cases hle : i ≤ s.size
    rotate_left
    · have hle' : ¬ (i : Int) ≤ (s.size : Int) := by omega
      have HT : Hid (T = some ns) := by
        rcases HS.out with h | h
        · omega
        · exact h.2
      go_wp2
      go_ret2
      exact ⟨ns, true, g, c, rfl, .inl ⟨rfl, HT.out⟩, by omega, hown, hbel⟩
    have hle' : (i : Int) ≤ (s.size : Int) := by omega
    by_cases hc : ∃ h : i < s.size, s[i] ≠ 32
    · obtain ⟨hlt, hc⟩ := hc
      have hlt' : (i : Int) < (s.size : Int) := by omega
      have hi0 : (0 : Int) ≤ (i : Int) := by omega
      have hz : ¬ (s[i].toNat : Int) = 32 := fun e => hc (UInt8.toNat_inj.1 (by simp; omega))
      have hzb : ((s[i].toNat : Int) != 32) = true := by simpa using hz
      have HS1 : Hid (Stand s T (i + 1) fr ns) := HS.out.on hlt hc
      clear hc hz
      go_wp2
      go_roundw
      case rel => exact ⟨i + 1, fr, g, c, ns, by omega, by omega, by omega, by go_num, rfl, rfl, HS1, hown, hbel⟩
      case measure => simp [intOf]; omega
    have hc' : (h : i < s.size) → s[i] = 32 := fun h => Classical.byContradiction fun e => hc ⟨h, e⟩
    obtain ⟨w1, w2⟩ := HS.out.word hle hc'
    have HW1 : Hid (∀ n, num1 ((s.data.toList.drop fr).take (i - fr)) = some n → Stand s T (i + 1) (i + 1) (ns ++ [n])) := w1
    have HW2 : Hid (num1 ((s.data.toList.drop fr).take (i - fr)) = none → T = none) := w2
    have HX : Hid (∀ W, Calls Tryd.prog 43 #[.string (s.extract fr i)] W fun e w' => e = .returned (ret2 (num1 ((s.data.toList.drop fr).take (i - fr)))) ∧ w' = W) := fun W => by
      have := l1Number_any (s.extract fr i) (by simp; omega) W
      rwa [extract_list] at this
    clear w1 w2
    have hi0 : (0 : Int) ≤ (i : Int) := by omega
    have hf0 : (0 : Int) ≤ (fr : Int) := by omega
    have hfi : (fr : Int) ≤ (i : Int) := by omega
    have hcond : (i < s.size ∧ (∃ h : i < s.size, ((s[i].toNat : Int) != 32) = false)) ∨ ¬ i < s.size := by
      by_cases hlt : i < s.size
      · exact .inl ⟨hlt, hlt, by rw [hc' hlt]; rfl⟩
      · exact .inr hlt
    have hstep : ∀ n : Int, num1 ((s.data.toList.drop fr).take (i - fr)) = some n → Hid (Stand s T (i + 1) (i + 1) (ns ++ [n])) := fun n h => HW1.out n h
    have HST : Hid (∀ n : Int, num1 ((s.data.toList.drop fr).take (i - fr)) = some n → Hid (Stand s T (i + 1) (i + 1) (ns ++ [n]))) := hstep
    clear hstep hc hc' HW1 HS
    cases hn : num1 ((s.data.toList.drop fr).take (i - fr)) with
    | none =>
      rw [hn] at HX
      have HX0 : Hid (∀ W, Calls Tryd.prog 43 #[.string (s.extract fr i)] W fun e w' => e = .returned (.tuple #[.int .i64 0, .bool false]) ∧ w' = W) := HX
      clear HX
      have HX := HX0
      clear HX0
      have HT : Hid (T = none) := HW2.out hn
      clear HW2 HST hn
      rcases hcond with ⟨hlt, hlt2, hzb⟩ | hlt
      · have hlt' : (i : Int) < (s.size : Int) := by omega
        go_wp2_with (go_at_call 43; refine (HX.out _).mono ?_; rintro e w1 ⟨rfl, hq⟩; have hq' := hq.symm; subst hq'; clear hq)
        go_ret2
        exact ⟨ns, false, g, c, rfl, .inr ⟨rfl, HT.out⟩, by omega, hown, hbel⟩
      · have hlt' : ¬ (i : Int) < (s.size : Int) := by omega
        go_wp2_with (go_at_call 43; refine (HX.out _).mono ?_; rintro e w1 ⟨rfl, hq⟩; have hq' := hq.symm; subst hq'; clear hq)
        go_ret2
        exact ⟨ns, false, g, c, rfl, .inr ⟨rfl, HT.out⟩, by omega, hown, hbel⟩
    | some n =>
      rw [hn] at HX
      have HX0 : Hid (∀ W, Calls Tryd.prog 43 #[.string (s.extract fr i)] W fun e w' => e = .returned (.tuple #[.int .i64 n, .bool true]) ∧ w' = W) := HX
      clear HX
      have HX := HX0
      clear HX0
      have HSn := HST.out n hn
      clear HW2 HST hn
      rcases hcond with ⟨hlt, hlt2, hzb⟩ | hlt
      · have hlt' : (i : Int) < (s.size : Int) := by omega
        go_wp2_with (first | (go_at_call 43; refine (HX.out _).mono ?_; rintro e w1 ⟨rfl, hq⟩; have hq' := hq.symm; subst hq'; clear hq) | (at_builtin; refine wpList_append_int rfl _ _ rfl w.heap.size g c ns.length (gd ns) rfl (by exact hown.below ((Below.refl _ _).alloc (Nat.le_refl _) _) (by omega)) ⟨wr.heap.size, 0, none⟩ 1 n rfl (by simp [go_sem]) (by omega) (by simp; omega) ?_; intro g' c' w3 hown3 hgrow3 hat3))
        have hown4 := hown3 (gd (ns ++ [n])) (fun j hj => gd_snoc_lt hj) (gd_snoc_at ns n)
        have hB3 := (hbel.alloc (o := .cells #[.int .i64 n] 2) (by omega)).grown hgrow3 (by simp; omega) (fun j hj => by cases hj; omega)
        have hl1 : (ns ++ [n]).length = ns.length + 1 := by simp
        go_roundw
        case rel => exact ⟨i + 1, i + 1, g', c', ns ++ [n], by omega, Nat.le_refl _, by rw [hl1]; omega, by go_num, by go_num, by rw [hl1], HSn, by rw [hl1]; exact hown4, hB3⟩
        case measure => simp [intOf]; omega
      · have hlt' : ¬ (i : Int) < (s.size : Int) := by omega
        go_wp2_with (first | (go_at_call 43; refine (HX.out _).mono ?_; rintro e w1 ⟨rfl, hq⟩; have hq' := hq.symm; subst hq'; clear hq) | (at_builtin; refine wpList_append_int rfl _ _ rfl w.heap.size g c ns.length (gd ns) rfl (by exact hown.below ((Below.refl _ _).alloc (Nat.le_refl _) _) (by omega)) ⟨wr.heap.size, 0, none⟩ 1 n rfl (by simp [go_sem]) (by omega) (by simp; omega) ?_; intro g' c' w3 hown3 hgrow3 hat3))
        have hown4 := hown3 (gd (ns ++ [n])) (fun j hj => gd_snoc_lt hj) (gd_snoc_at ns n)
        have hB3 := (hbel.alloc (o := .cells #[.int .i64 n] 2) (by omega)).grown hgrow3 (by simp; omega) (fun j hj => by cases hj; omega)
        have hl1 : (ns ++ [n]).length = ns.length + 1 := by simp
        go_roundw
        case rel => exact ⟨i + 1, i + 1, g', c', ns ++ [n], by omega, Nat.le_refl _, by rw [hl1]; omega, by go_num, by go_num, by rw [hl1], HSn, by rw [hl1]; exact hown4, hB3⟩
        case measure => simp [intOf]; omega

end Go.Proofs.YtcmeppjfjledfaaDoor

/-
  A region that draws its order, taken by hand: an operation whose guard says no.
-/
set_option linter.unusedVariables false
set_option linter.unusedSimpArgs false
namespace Go.Proofs.YtcmeppjfjledfaaDoor
open Go

section
variable {P : Program} {ops : Array Oper} {Q : Exit → Act → World → Prop} {md : Region.Mode} {S : World → Prop}
/-- An operation that is not wanted yields nothing, in whatever order. -/
theorem skipH (i : Nat) (d : Option Tmp) {oi : Oper} {fuel : Nat} {listed : Array Bool} {a : Act} {w : World} (hi : ops[i]? = some oi) (hd : oi.dst = d)
    (hs : Region.noSelect ops = true) (hf : Region.free md ops listed i = true) (hr : (Region.ready md ops listed).contains i = true)
    (hQ : ∀ c a w, Q (.panic c) (a.put oi.dst undef) w → Q (.panic c) a w) (hw : Region.wanted oi (yielded ops a.tmps) = false) (hS : S w)
    (h : wpAnyH P md ops Q S fuel (listed.setIfInBounds i true) (a.put d undef) w) : wpAnyH P md ops Q S (fuel + 1) listed a w :=
  wpAnyH_take hi hs hf hr hQ (.inr ⟨hw, rfl⟩) hS (by rw [hd]; exact h)
/-- The same of one that is alone ready. -/
theorem skip1H (i : Nat) (d : Option Tmp) {oi : Oper} {fuel : Nat} {listed : Array Bool} {a : Act} {w : World} (hi : ops[i]? = some oi) (hd : oi.dst = d) (hr : Region.ready md ops listed = [i])
    (hw : Region.wanted oi (yielded ops a.tmps) = false) (hS : S w)
    (h : wpAnyH P md ops Q S fuel (listed.setIfInBounds i true) (a.put d undef) w) : wpAnyH P md ops Q S (fuel + 1) listed a w :=
  wpAnyH_ready hr (by simp) (AllReadyH.cons hi (fun K hK => by rw [if_neg (by rw [hw]; simp)]; exact hK.out _ _ hS (fun _ => by rw [hd]; exact h)) AllReadyH.nil)
/-- One that yields in every world that keeps to S. -/
theorem takeH (i : Nat) (d : Option Tmp) (v : Value) {oi : Oper} {fuel : Nat} {listed : Array Bool} {a : Act} {w : World} (hi : ops[i]? = some oi) (hd : oi.dst = d)
    (hs : Region.noSelect ops = true) (hf : Region.free md ops listed i = true) (hr : (Region.ready md ops listed).contains i = true)
    (hQ : ∀ c a w, Q (.panic c) (a.put oi.dst v) w → Q (.panic c) a w) (hw : Region.wanted oi (yielded ops a.tmps) = true) (hS : S w) (hy : ∀ w, S w → (execOp a.eval oi).run P w = .ok (.value v) w)
    (h : wpAnyH P md ops Q S fuel (listed.setIfInBounds i true) (a.put d v) w) : wpAnyH P md ops Q S (fuel + 1) listed a w :=
  wpAnyH_take hi hs hf hr hQ (.inl ⟨hw, hy⟩) hS (by rw [hd]; exact h)
/-- An operation that is alone ready and wanted. -/
theorem step1H (i : Nat) (oi : Oper) {fuel : Nat} {listed : Array Bool} {a : Act} {w : World} (hi : ops[i]? = some oi) (hr : Region.ready md ops listed = [i])
    (hw : Region.wanted oi (yielded ops a.tmps) = true) (h : Oper.wp P oi a w (fun a' w' => S w' ∧ wpAnyH P md ops Q S fuel (listed.setIfInBounds i true) a' w') Q) : wpAnyH P md ops Q S (fuel + 1) listed a w :=
  wpAnyH_ready hr (by simp) (AllReadyH.cons hi (fun K hK => by rw [if_pos hw]; exact Oper.wp_mono (fun a' w' h' => hK.out _ _ h'.1 (fun _ => h'.2)) h) AllReadyH.nil)
end

end Go.Proofs.YtcmeppjfjledfaaDoor

/-
  A region that draws its order, taken by hand: two operations that are ready; an operation that yields, makes or stores.
-/
set_option linter.unusedVariables false
set_option linter.unusedSimpArgs false
namespace Go.Proofs.YtcmeppjfjledfaaDoor
open Go

theorem wp_of_run {P : Program} {o : Oper} {a : Act} {w : World} {K : Act → World → Prop} {Q : Exit → Act → World → Prop} {v : Value} (h : (execOp a.eval o).run P w = .ok (.value v) w) (hK : K (a.put o.dst v) w) : o.wp P a w K Q := by
  unfold Oper.wp
  rw [h]
  exact hK
theorem wp_of_skip {P : Program} {o : Oper} {a : Act} {w w' : World} {K : Act → World → Prop} {Q : Exit → Act → World → Prop} (h : (execOp a.eval o).run P w = .ok .skip w') (hK : K (a.put o.dst undef) w') : o.wp P a w K Q := by
  unfold Oper.wp
  rw [h]
  exact hK
theorem wp_of_made {P : Program} {o : Oper} {a : Act} {w w' : World} {K : Act → World → Prop} {Q : Exit → Act → World → Prop} {v : Value} (h : (execOp a.eval o).run P w = .ok (.value v) w') (hK : K (a.put o.dst v) w') : o.wp P a w K Q := by
  unfold Oper.wp
  rw [h]
  exact hK
/-- Two operations that are ready: either may come first. -/
theorem step2H {P : Program} {ops : Array Oper} {Q : Exit → Act → World → Prop} {md : Region.Mode} {S : World → Prop} (i j : Nat) (oi oj : Oper) {fuel : Nat} {listed : Array Bool} {a : Act} {w : World} (hi : ops[i]? = some oi) (hj : ops[j]? = some oj) (hr : Region.ready md ops listed = [i, j])
    (hwi : Region.wanted oi (yielded ops a.tmps) = true) (hwj : Region.wanted oj (yielded ops a.tmps) = true)
    (h1 : Oper.wp P oi a w (fun a' w' => S w' ∧ wpAnyH P md ops Q S fuel (listed.setIfInBounds i true) a' w') Q) (h2 : Oper.wp P oj a w (fun a' w' => S w' ∧ wpAnyH P md ops Q S fuel (listed.setIfInBounds j true) a' w') Q) : wpAnyH P md ops Q S (fuel + 1) listed a w :=
  wpAnyH_ready hr (by simp) (AllReadyH.cons hi (fun K hK => by rw [if_pos hwi]; exact Oper.wp_mono (fun a' w' h' => hK.out _ _ h'.1 (fun _ => h'.2)) h1) (AllReadyH.cons hj (fun K hK => by rw [if_pos hwj]; exact Oper.wp_mono (fun a' w' h' => hK.out _ _ h'.1 (fun _ => h'.2)) h2) AllReadyH.nil))

end Go.Proofs.YtcmeppjfjledfaaDoor
