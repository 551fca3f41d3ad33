/-
  A list of steps of one's own: append.
-/
import Derived.Test.YtokaechbmnbbiabGreatUnJP
set_option linter.unusedVariables false
set_option linter.unusedSimpArgs false
namespace Go.Proofs.YtokaechbmnbbiabGreat
open Go.RowKit Go.Deep

def SOwn (w : World) (base : Nat) (go : Option Addr) (cap : Nat) (l : List (Nat × Bool)) : Prop := w.ownsRow base 104 2 (.slice go l.length cap) l.length (scells l)
theorem SOwn.of_block {w w' : World} {base cap : Nat} {go : Option Addr} {l : List (Nat × Bool)} (h : SOwn w base go cap l) (e : ∀ x, (Value.slice go l.length cap).ownBlock = some x → w'.heap[x]? = w.heap[x]?) : SOwn w' base go cap l := by
  refine ⟨h.1, ?_⟩
  rcases h.2 with hn | ⟨g', cap', cur, hv, hb', hgg, rest⟩
  · exact .inl hn
  · have e2 := e g' (by rw [hv]; rfl)
    exact .inr ⟨g', cap', cur, hv, hb', e2.trans hgg, rest⟩
theorem SOwn.at {w : World} {base cap x : Nat} {go : Option Addr} {l : List (Nat × Bool)} (h : SOwn w base go cap l) (e : (Value.slice go l.length cap).ownBlock = some x) : base ≤ x ∧ x < w.heap.size := World.ownsRow.lt h x e
theorem SOwn.next {w w' : World} {base cap : Nat} {go : Option Addr} {l : List (Nat × Bool)} (h : SOwn w base go cap l) (hb : Below w.heap.size w w') : SOwn w' base go cap l := h.of_block (fun x e => hb.block x (h.at e).2)
theorem SOwn.grown {w w' : World} {base cap : Nat} {go : Option Addr} {l : List (Nat × Bool)} {row : Option Nat} (h : SOwn w base go cap l) (hg : w.grownBy w' row) (hne : ∀ x, (Value.slice go l.length cap).ownBlock = some x → row ≠ some x) : SOwn w' base go cap l := h.of_block (fun x e => hg.block x (h.at e).2 (fun q => hne x e q.symm))
theorem SOwn.from {w : World} {base base' cap : Nat} {go : Option Addr} {l : List (Nat × Bool)} (h : SOwn w base go cap l) (hb : base' ≤ base) : SOwn w base' go cap l := by
  obtain ⟨hl, h0 | ⟨g', cap', cur, hv, hb', rest⟩⟩ := h
  · exact ⟨hl, .inl h0⟩
  · exact ⟨hl, .inr ⟨g', cap', cur, hv, Nat.le_trans hb hb', rest⟩⟩
theorem SOwn.cap {w : World} {base g cap : Nat} {l : List (Nat × Bool)} (h : SOwn w base (some ⟨g, 0, none⟩) cap l) : l.length ≤ cap := by
  rcases h.2 with ⟨e, _⟩ | ⟨g', cap', cur, e, _, _, h2, _⟩
  · cases e
  · simp only [Value.slice.injEq, Option.some.injEq, Addr.mk.injEq, and_true, true_and] at e
    obtain ⟨rfl, rfl⟩ := e
    exact h2
theorem SOwn.lt {w : World} {base g cap : Nat} {l : List (Nat × Bool)} (h : SOwn w base (some ⟨g, 0, none⟩) cap l) : base ≤ g ∧ g < w.heap.size := h.at rfl
theorem SOwn.row {w : World} {base g cap : Nat} {l : List (Nat × Bool)} (h : SOwn w base (some ⟨g, 0, none⟩) cap l) : SRow w g 0 l := srow_of fun j u hu => by
  obtain ⟨hlen, ⟨e, _⟩ | ⟨g', gc, cur, e, hg, hblk, hnc, _, hsz, ht⟩⟩ := h
  · cases e
  · simp only [Value.slice.injEq, Option.some.injEq, Addr.mk.injEq, and_true, true_and] at e
    obtain ⟨rfl, rfl⟩ := e
    rw [← ht, List.getElem?_take] at hu
    split at hu
    · have hc : cur[j]? = some u := by simpa using hu
      simp [World.cell?, hblk, hc]
    · cases hu
theorem sown_empty (w : World) {base : Nat} (hb : base ≤ w.heap.size) : SOwn (w.alloc (.cells #[] 104)) base (some ⟨w.heap.size, 0, none⟩) 0 [] := by
  have := World.ownsRow_lit (base := base) (e := 104) (size := 2) w #[] 0 hb (by simp) (by simp)
  simpa [SOwn, scells] using this
theorem wp_appO {o : Oper} {a : Act} {w : World} {K : Act → World → Prop} {Q : Exit → Act → World → Prop} (s x : Operand)
    (ho : o.op = .call { callee := .builtin .append, args := #[s, x], argTypes := #[100, 100] }) (d : Nat) (hd : o.dst = some d) (base gc : Nat) (go : Option Addr) (l l2 : List (Nat × Bool)) (hs : a.eval s = .slice go l.length gc) (hown : SOwn w base go gc l) (b i m c : Nat) (hm : l2.length = m) (hx : a.eval x = .slice (some ⟨b, i, none⟩) m c)
    (h0 : SRow w b i l2) (hk0 : 0 < m) (hk : l.length ≤ 1000000) (hk2 : m ≤ 1000000) (hbase : base ≤ w.heap.size)
    (h : ∀ g' gc' w', SOwn w' base (some ⟨g', 0, none⟩) gc' (l ++ l2) → w.grownBy w' (Value.slice go l.length gc).ownBlock → ((Value.slice go l.length gc).ownBlock = some g' ∨ g' = w.heap.size) → K (a.put (some d) (.slice (some ⟨g', 0, none⟩) (l.length + m) gc')) w') : o.wp Tryz.prog a w K Q := by
  obtain ⟨i0, hi0, hz0, hz1, hz2⟩ := info_parts Tryz.infoStep
  subst hm
  refine wp_append_lies w s x 100 ho base 104 i0 _ 2 16 Tryz.underlying100 hi0 hz0 hz1 hz2 rfl (by omega) _ l.length (scells l) hs hown ⟨b, i, none⟩ l2.length c (scells l2) hx (by rw [scells_len]) ?_ ?_ hk0 (by unfold maxLen; omega) (by omega) hbase w.heap.size rfl ?_
  · intro j u hu
    have : (⟨b, i, none⟩ : Addr).add j = ⟨b, i + j, none⟩ := by unfold Addr.add; split <;> simp_all
    rw [this]
    exact h0.olds j u hu
  · intro u hu
    have : ∀ l : List (Nat × Bool), ∀ u ∈ scells l, u.oneCell' = true := fun l => by
      induction l with
      | nil => intro u hu; simp [scells] at hu
      | cons s l ih =>
        intro u hu
        simp only [scells, List.mem_cons] at hu
        rcases hu with rfl | rfl | hu
        · rfl
        · rfl
        · exact ih u hu
    exact this l2 u hu
  · intro g' gc' w' hown' hgrow hat _
    rw [← scells_app] at hown'
    rw [hd]
    exact h g' gc' w' (by unfold SOwn; rw [List.length_append]; exact hown') hgrow hat
theorem wpList_appO {o : Oper} {ops : Array Oper} {rest : List Oper} {a : Act} {w : World} {Q : Exit → Act → World → Prop} (hgd : o.guard = none) (s x : Operand)
    (ho : o.op = .call { callee := .builtin .append, args := #[s, x], argTypes := #[100, 100] }) (d : Nat) (hd : o.dst = some d) (base gc : Nat) (go : Option Addr) (l l2 : List (Nat × Bool)) (hs : a.eval s = .slice go l.length gc) (hown : SOwn w base go gc l) (b i m c : Nat) (hm : l2.length = m) (hx : a.eval x = .slice (some ⟨b, i, none⟩) m c)
    (h0 : SRow w b i l2) (hk0 : 0 < m) (hk : l.length ≤ 1000000) (hk2 : m ≤ 1000000) (hbase : base ≤ w.heap.size)
    (h : ∀ g' gc' w', SOwn w' base (some ⟨g', 0, none⟩) gc' (l ++ l2) → w.grownBy w' (Value.slice go l.length gc).ownBlock → ((Value.slice go l.length gc).ownBlock = some g' ∨ g' = w.heap.size) → wpList Tryz.prog ops Q rest (a.put (some d) (.slice (some ⟨g', 0, none⟩) (l.length + m) gc')) w') : wpList Tryz.prog ops Q (o :: rest) a w :=
  wpList_plain hgd fun K hK => wp_appO s x ho d hd base gc go l l2 hs hown b i m c hm hx h0 hk0 hk hk2 hbase fun g' gc' w' h1 h2 h3 => hK _ _ (h g' gc' w' h1 h2 h3)

theorem run_appO_zero (ty : TypeId) (g n cap : Nat) (ao : Option Addr) (c : Nat) (hnc : n ≤ cap) (w : World) : (Builtin.append_ #[100, 100] ty #[.slice (some ⟨g, 0, none⟩) n cap, .slice ao 0 c]).run Tryz.prog w = .ok (.slice (some ⟨g, 0, none⟩) n cap) w := by
  obtain ⟨i0, hi0, hz0, hz1, hz2⟩ := info_parts Tryz.infoStep
  cases ao <;> simp [Builtin.append_, run_underlying Tryz.underlying100, sizeOf, typeInfo, hi0, Builtin.lenOf, Builtin.firstCells, hnc, storeCells, loadCells, loadCellsFrom]
theorem wp_appZ {o : Oper} {a : Act} {w : World} {K : Act → World → Prop} {Q : Exit → Act → World → Prop} (s x : Operand)
    (ho : o.op = .call { callee := .builtin .append, args := #[s, x], argTypes := #[100, 100] }) (d : Nat) (hd : o.dst = some d) (base gc g : Nat) (l l2 : List (Nat × Bool)) (n m : Nat) (hln : l.length = n) (hs : a.eval s = .slice (some ⟨g, 0, none⟩) n gc) (hown : SOwn w base (some ⟨g, 0, none⟩) gc l) (b c : Nat) (hm : l2.length = m) (hx : a.eval x = .slice (some ⟨b, 0, none⟩) m c)
    (h0 : SRow w b 0 l2) (hk : n ≤ 1000000) (hk2 : m ≤ 1000000) (hbase : base ≤ w.heap.size)
    (h : ∀ g' gc' w', SOwn w' base (some ⟨g', 0, none⟩) gc' (l ++ l2) → w.grownBy w' (some g) → K (a.put (some d) (.slice (some ⟨g', 0, none⟩) (n + m) gc')) w') : o.wp Tryz.prog a w K Q := by
  subst hln
  rcases Nat.eq_zero_or_pos m with h9 | h9
  · subst h9
    have e : l2 = [] := List.length_eq_zero_iff.1 hm
    subst e
    have hrun := run_appO_zero o.type g l.length gc (some ⟨b, 0, none⟩) c hown.cap w
    unfold Oper.wp execOp
    simp only [ho, resolve, invoke, builtin, Sem.run_bind, Sem.run_pure, Result.andThen_ok, List.map_toArray, List.map_cons, List.map_nil, hs, hx, hrun]
    show K (a.put o.dst (.slice (some ⟨g, 0, none⟩) l.length gc)) w
    rw [hd]
    exact h g gc w (by rw [List.append_nil]; exact hown) ⟨rfl, rfl, rfl, Nat.le_refl _, fun _ _ _ => rfl⟩
  · exact wp_appO s x ho d hd base gc (some ⟨g, 0, none⟩) l l2 hs hown b 0 m c hm hx h0 h9 hk hk2 hbase fun g' gc' w' h1 h2 _ => h g' gc' w' h1 h2
theorem step_appZ {o : Oper} {ops : Array Oper} {a : Act} {w : World} {K : Act → World → Prop} {Q : Exit → Act → World → Prop} {E : Prop} (hgd : o.guard = none) (s x : Operand)
    (ho : o.op = .call { callee := .builtin .append, args := #[s, x], argTypes := #[100, 100] }) (d : Nat) (hd : o.dst = some d) (base gc g : Nat) (l l2 : List (Nat × Bool)) (n m : Nat) (hln : l.length = n) (hs : a.eval s = .slice (some ⟨g, 0, none⟩) n gc) (hown : SOwn w base (some ⟨g, 0, none⟩) gc l) (b c : Nat) (hm : l2.length = m) (hx : a.eval x = .slice (some ⟨b, 0, none⟩) m c)
    (h0 : SRow w b 0 l2) (hk : n ≤ 1000000) (hk2 : m ≤ 1000000) (hbase : base ≤ w.heap.size)
    (h : ∀ g' gc' w', SOwn w' base (some ⟨g', 0, none⟩) gc' (l ++ l2) → w.grownBy w' (some g) → K (a.put (some d) (.slice (some ⟨g', 0, none⟩) (n + m) gc')) w') : if Region.wanted o (yielded ops a.tmps) = true then Oper.wp Tryz.prog o a w K Q else E := by
  have hw : Region.wanted o (yielded ops a.tmps) = true := by simp [Region.wanted, hgd]
  rw [if_pos hw]
  exact wp_appZ s x ho d hd base gc g l l2 n m hln hs hown b c hm hx h0 hk hk2 hbase h

end Go.Proofs.YtokaechbmnbbiabGreat
