/-
  Helpers, merged: FillSp, OwnI, Turns, OwnL, BAn, EdOk, Cmp, EdOkImpl, ChdP, Chd, Tri, Cus.
-/
import Derived.Test.YteibbknpcgcjjabGreatPack3
import Derived.Test.YteibbknpcgcjjabGreatPack2
import Derived.Test.YteibbknpcgcjjabGreatRows
import Derived.Test.YteibbknpcgcjjabGreatPack1
/-
  The fill at every map and every list: the document's answer, in new memory.
-/
set_option linter.unusedVariables false
set_option linter.unusedSimpArgs false
namespace Go.Proofs.YteibbknpcgcjjabGreat
open Go.RowKit
attribute [local go_sem ↓] Go.wp_at_zero Go.wp_at_succ

set_option maxHeartbeats 1000000 in
theorem specFill_any (p : Int) (ao : Option Addr) (n cap : Nat) (F T G : Nat → Int) (po : Option Addr) (m pcap : Nat) (P : Nat → Int) (hn : n ≤ 1048576) (hm : m ≤ 1048576) (w : World) (hr : Row w ao n F T G) (hq : IRow w po m P) :
    Calls Tryz.prog 125 #[.agg #[.int .i64 p, .slice ao n cap], .slice po m pcap] w fun e w' => EAns w w' e (lenF p n F T G m P) (Lf (lstF p n F T P)) (Hf (lstF p n F T P)) := by
  rcases Bool.eq_false_or_eq_true (ordB p n F T G m P) with h | h
  rotate_left
  · have hL : lenF p n F T G m P = 0 := by simp [lenF, h]
    rw [hL]
    go_enter Tryz.func125, Tryz.ntmps125
    go_wp2_with (go_at_call 36; refine (specOrderOk_any p ao n cap F T G po m pcap P hn hm _ (hr.alloc _) (hq.alloc _)).mono ?_; rintro e w1 ⟨rfl, hb1⟩)
    go_ret
    exact ⟨_, _, rfl, fun h => by omega, unbox (hb1.alloc (by have := hb1.size; omega) _) (by simp)⟩
  obtain ⟨hmp, hg, ⟨hm1, hm2⟩, he⟩ := ordB_parts h
  subst hmp
  have hL : lenF m n F T G m P = (allS (nbA F T n) P m m).length := by simp [lenF, h, lstF]
  have hS : lstF m n F T P = allS (nbA F T n) P m m := by simp [lstF]
  rw [hL, hS]
  obtain ⟨_, hn1, hF, hT, hFT⟩ := ok_arcs hg
  have HA : Hid ((∀ k, k < n → 0 ≤ F k ∧ F k < (m : Int)) ∧ (∀ k, k < n → 0 ≤ T k ∧ T k < (m : Int)) ∧ (∀ k, k < n → F k ≠ T k) ∧ eachB m P m = true) := ⟨hF, hT, hFT, he⟩
  clear hL hS hF hT hFT he
  go_enter Tryz.func125, Tryz.ntmps125
  go_wp2_with (first | (go_at_call 36; refine (specOrderOk_any m ao n cap F T G po m pcap P hn hm _ (hr.alloc _) (hq.alloc _)).mono ?_; rintro e w1 ⟨rfl, hb1⟩; obtain ⟨hc, hf⟩ := bcell hb1) | (go_at_call 37; refine (l4Fill_any m ao n cap F T G po pcap P hm1 hm2 hn1 HA.out.1 HA.out.2.1 HA.out.2.2.1 HA.out.2.2.2 _ ((hr.alloc _).below hb1 (Nat.le_refl _)) ((hq.alloc _).below hb1 (Nat.le_refl _))).mono ?_; rintro e w2 ⟨g, c, rfl, hg2, hE, hb2⟩))
  go_ret
  exact ⟨_, _, rfl, fun _ => ⟨g, rfl, by have := hb1.size; simp at this; omega, hE.has⟩, unbox (below_next hb1 (Nat.le_refl _) hb2) (by simp)⟩
set_option maxHeartbeats 1000000 in
theorem specFill_own (p : Int) (ao : Option Addr) (n cap : Nat) (F T G : Nat → Int) (po : Option Addr) (m pcap : Nat) (P : Nat → Int) (hn : n ≤ 1048576) (hm : m ≤ 1048576) (w : World) (hr : Row w ao n F T G) (hq : IRow w po m P) :
    Calls Tryz.prog 125 #[.agg #[.int .i64 p, .slice ao n cap], .slice po m pcap] w fun e w' => ∃ g c l, e = .returned (.slice (some ⟨g, 0, none⟩) l.length c) ∧ l = (if ordB p n F T G m P then lstF p n F T P else []) ∧ EOwn w' w.heap.size g c l ∧ Below w.heap.size w w' := by
  rcases Bool.eq_false_or_eq_true (ordB p n F T G m P) with h | h
  rotate_left
  · rw [h]
    go_enter Tryz.func125, Tryz.ntmps125
    go_wp2_with (go_at_call 36; refine (specOrderOk_any p ao n cap F T G po m pcap P hn hm _ (hr.alloc _) (hq.alloc _)).mono ?_; rintro e w1 ⟨rfl, hb1⟩)
    go_ret
    have hz := hb1.size
    simp at hz
    exact ⟨w1.heap.size, 0, [], rfl, rfl, EOwn.empty w1 (by omega), unbox (hb1.alloc (by have := hb1.size; omega) _) (by simp)⟩
  obtain ⟨hmp, hg, ⟨hm1, hm2⟩, he⟩ := ordB_parts h
  subst hmp
  have hS : lstF m n F T P = allS (nbA F T n) P m m := by simp [lstF]
  rw [h, hS]
  obtain ⟨_, hn1, hF, hT, hFT⟩ := ok_arcs hg
  have HA : Hid ((∀ k, k < n → 0 ≤ F k ∧ F k < (m : Int)) ∧ (∀ k, k < n → 0 ≤ T k ∧ T k < (m : Int)) ∧ (∀ k, k < n → F k ≠ T k) ∧ eachB m P m = true) := ⟨hF, hT, hFT, he⟩
  clear hS hF hT hFT he
  go_enter Tryz.func125, Tryz.ntmps125
  go_wp2_with (first | (go_at_call 36; refine (specOrderOk_any m ao n cap F T G po m pcap P hn hm _ (hr.alloc _) (hq.alloc _)).mono ?_; rintro e w1 ⟨rfl, hb1⟩; obtain ⟨hc, hf⟩ := bcell hb1) | (go_at_call 37; refine (l4Fill_any m ao n cap F T G po pcap P hm1 hm2 hn1 HA.out.1 HA.out.2.1 HA.out.2.2.1 HA.out.2.2.2 _ ((hr.alloc _).below hb1 (Nat.le_refl _)) ((hq.alloc _).below hb1 (Nat.le_refl _))).mono ?_; rintro e w2 ⟨g, c, rfl, hg2, hE, hb2⟩))
  go_ret
  exact ⟨g, c, _, rfl, rfl, hE.from (by have := hb1.size; simp at this; omega), unbox (below_next hb1 (Nat.le_refl _) hb2) (by simp)⟩

end Go.Proofs.YteibbknpcgcjjabGreat

/-
  A list of numbers of the call's own, or none yet, that grows by one.
-/
set_option linter.unusedVariables false
set_option linter.unusedSimpArgs false
namespace Go.Proofs.YteibbknpcgcjjabGreat
open Go.RowKit

/-- n numbers behind a slice of the call's own, or a slice that is nil. -/
def OwnE (w : World) (base : Nat) (go : Option Addr) (n cap : Nat) (f : Nat → Int) : Prop := w.ownsRow base 2 1 (.slice go n cap) n (icells f n)
theorem OwnE.nil (w : World) (base : Nat) (f : Nat → Int) : OwnE w base none 0 0 f := ⟨by simp [icells], .inl ⟨rfl, rfl⟩⟩
theorem OwnE.at {w : World} {base n cap x : Nat} {go : Option Addr} {f : Nat → Int} (h : OwnE w base go n cap f) (e : (Value.slice go n cap).ownBlock = some x) : base ≤ x ∧ x < w.heap.size := World.ownsRow.lt h x e
theorem OwnE.of_block {w w' : World} {base n cap : Nat} {go : Option Addr} {f : Nat → Int} (h : OwnE w base go n cap f) (e : ∀ x, (Value.slice go n cap).ownBlock = some x → w'.heap[x]? = w.heap[x]?) : OwnE w' base go n cap f := by
  refine ⟨h.1, ?_⟩
  rcases h.2 with hn | ⟨g', cap', cur, hv, hb', hgg, rest⟩
  · exact .inl hn
  · have e2 := e g' (by rw [hv]; rfl)
    exact .inr ⟨g', cap', cur, hv, hb', e2.trans hgg, rest⟩
theorem OwnE.next {w w' : World} {base n cap : Nat} {go : Option Addr} {f : Nat → Int} (h : OwnE w base go n cap f) (hb : Below w.heap.size w w') : OwnE w' base go n cap f := h.of_block (fun x e => hb.block x (h.at e).2)
theorem OwnE.grown {w w' : World} {base n cap : Nat} {go : Option Addr} {f : Nat → Int} {row : Option Nat} (h : OwnE w base go n cap f) (hg : w.grownBy w' row) (hne : ∀ x, (Value.slice go n cap).ownBlock = some x → row ≠ some x) : OwnE w' base go n cap f := h.of_block (fun x e => hg.block x (h.at e).2 (fun q => hne x e q.symm))
theorem OwnE.has {w : World} {base n cap : Nat} {go : Option Addr} {f : Nat → Int} (h : OwnE w base go n cap f) (hn : 0 < n) : ∃ g, go = some ⟨g, 0, none⟩ ∧ base ≤ g ∧ IHas w g n f := by
  have h' := h
  obtain ⟨hl, h0 | ⟨g', cap', cur, hv, hb, hh, h1, h2, h3, h4⟩⟩ := h
  · omega
  · simp at hv
    obtain ⟨rfl, rfl⟩ := hv
    refine ⟨g', rfl, hb, cur, hh, by omega, fun j hj => ?_⟩
    have : (cur.toList.take (n * 1))[j]? = (icells f n)[j]? := by rw [h4]
    rw [List.getElem?_take_of_lt (by omega), icells_at hj] at this
    simpa using this
/-- The room of a list of numbers is what its slice says. -/
def Cap (w : World) (b cap : Nat) : Prop := ∃ cur : Array Value, w.heap[b]? = some (.cells cur 2 (0, 0)) ∧ cap ≤ maxLen ∧ cur.size = cap
theorem Cap.of_block {w w' : World} {b cap : Nat} (h : Cap w b cap) (e : w'.heap[b]? = w.heap[b]?) : Cap w' b cap := by
  obtain ⟨c, h1, h2, h3⟩ := h
  exact ⟨c, e.trans h1, h2, h3⟩
theorem Cap.lt {w : World} {b cap : Nat} (h : Cap w b cap) : b < w.heap.size := by
  obtain ⟨c, h1, h2, h3⟩ := h
  exact (Array.getElem?_eq_some_iff.1 h1).1
theorem Cap.set {w : World} {b cap : Nat} (h : Cap w b cap) (j : Nat) (v : Value) : Cap (w.setCell ⟨b, j, none⟩ v) b cap := by
  obtain ⟨c, h1, h2, h3⟩ := h
  exact ⟨c.setIfInBounds j v, by simp [World.setCell, Array.getElem?_modify, h1], h2, by simpa using h3⟩
theorem Cap.own {w : World} {b n cap base : Nat} {f : Nat → Int} (h : Cap w b cap) (hi : IHas w b n f) (hb : base ≤ b) : OwnE w base (some ⟨b, 0, none⟩) n cap f := by
  obtain ⟨c, h1, h2, h3⟩ := h
  obtain ⟨d, g1, g2, g3⟩ := hi
  rw [h1] at g1
  simp at g1
  subst g1
  refine ⟨by simp [icells], .inr ⟨b, cap, c, rfl, hb, h1, by omega, h2, by omega, ?_⟩⟩
  apply List.ext_getElem?
  intro j
  by_cases hj : j < n
  · rw [List.getElem?_take_of_lt (by omega), icells_at hj]
    simpa using g3 j hj
  · rw [List.getElem?_eq_none (by simp; omega), List.getElem?_eq_none (by simp [icells]; omega)]
theorem OwnE.capAt {w : World} {base n cap g : Nat} {go : Option Addr} {f : Nat → Int} (h : OwnE w base go n cap f) (e : go = some ⟨g, 0, none⟩) : Cap w g cap := by
  obtain ⟨hl, h0 | ⟨g', cap', cur, hv, hb, hh, h1, h2, h3, h4⟩⟩ := h
  · rw [e] at h0; simp at h0
  · rw [e] at hv
    simp at hv
    obtain ⟨rfl, rfl⟩ := hv
    exact ⟨cur, hh, h2, by omega⟩
theorem OwnE.room {w : World} {base n cap g : Nat} {go : Option Addr} {f : Nat → Int} (h : OwnE w base go n cap f) (e : go = some ⟨g, 0, none⟩) : n ≤ cap := by
  obtain ⟨hl, h0 | ⟨g', cap', cur, hv, hb, hh, h1, h2, h3, h4⟩⟩ := h
  · rw [e] at h0; simp at h0
  · rw [e] at hv
    simp at hv
    obtain ⟨rfl, rfl⟩ := hv
    exact h1
theorem own_blk {ao : Option Addr} {n cap x : Nat} (e : (Value.slice ao n cap).ownBlock = some x) : ∃ a, ao = some a ∧ a.block = x := by
  cases ao with
  | none => simp [Value.ownBlock] at e
  | some a => exact ⟨a, rfl, by simpa [Value.ownBlock] using e⟩
theorem wp_append_own {o : Oper} {a : Act} {w : World} {K : Act → World → Prop} {Q : Exit → Act → World → Prop} (s x : Operand)
    (ho : o.op = .call { callee := .builtin .append, args := #[s, x], argTypes := #[27, 27] }) (base k gc : Nat) (go : Option Addr) (f : Nat → Int) (hs : a.eval s = .slice go k gc) (hown : OwnE w base go k gc f) (B : Nat) (hx : a.eval x = .slice (some ⟨B, 0, none⟩) 1 1)
    (hB : w.cell? ⟨B, 0, none⟩ = some (.int .i64 (f k))) (hk : k ≤ 100000000) (hbase : base ≤ w.heap.size)
    (h : ∀ g' gc' w', OwnE w' base (some ⟨g', 0, none⟩) (k + 1) gc' f → w.grownBy w' (Value.slice go k gc).ownBlock → ((Value.slice go k gc).ownBlock = some g' ∨ g' = w.heap.size) → K (a.put o.dst (.slice (some ⟨g', 0, none⟩) (k + 1) gc')) w') : o.wp Tryz.prog a w K Q := by
  obtain ⟨i0, hi0, hz0, hz1, hz2⟩ := info_parts Tryz.infoInt
  refine wp_append_lies w s x 27 ho base 2 i0 _ 1 8 Tryz.underlying27 hi0 hz0 hz1 hz2 rfl (by omega) _ k (icells f k) hs hown ⟨B, 0, none⟩ 1 1 [.int .i64 (f k)] hx rfl ?_ ?_ (by omega) (by unfold maxLen; omega) (by omega) hbase w.heap.size rfl ?_
  · intro j u hu
    match j, hu with
    | 0, hu => simp at hu; subst hu; exact hB
    | j + 1, hu => simp at hu
  · intro u hu
    simp at hu
    subst hu; rfl
  · intro g' gc' w' hown' hgrow hat _
    rw [icells_put (f k) (fun _ _ => rfl) rfl] at hown'
    exact h g' gc' w' hown' hgrow hat
theorem step_append_own {ops : Array Oper} {o : Oper} {a : Act} {w : World} {K : Act → World → Prop} {Q : Exit → Act → World → Prop} {E : Prop} (hgd : o.guard = none) (s x : Operand)
    (ho : o.op = .call { callee := .builtin .append, args := #[s, x], argTypes := #[27, 27] }) (base k gc : Nat) (go : Option Addr) (f : Nat → Int) (hs : a.eval s = .slice go k gc) (hown : OwnE w base go k gc f) (B : Nat) (hx : a.eval x = .slice (some ⟨B, 0, none⟩) 1 1)
    (hB : w.cell? ⟨B, 0, none⟩ = some (.int .i64 (f k))) (hk : k ≤ 100000000) (hbase : base ≤ w.heap.size)
    (h : ∀ g' gc' w', OwnE w' base (some ⟨g', 0, none⟩) (k + 1) gc' f → w.grownBy w' (Value.slice go k gc).ownBlock → ((Value.slice go k gc).ownBlock = some g' ∨ g' = w.heap.size) → K (a.put o.dst (.slice (some ⟨g', 0, none⟩) (k + 1) gc')) w') :
    if Region.wanted o (yielded ops a.tmps) = true then Oper.wp Tryz.prog o a w K Q else E := by
  have hw : Region.wanted o (yielded ops a.tmps) = true := by simp [Region.wanted, hgd]
  rw [if_pos hw]
  exact wp_append_own s x ho base k gc go f hs hown B hx hB hk hbase h

end Go.Proofs.YteibbknpcgcjjabGreat

/-
  What a call has turned: some blocks, named in a list; all else that lay lies as it lay.
-/
set_option linter.unusedVariables false
set_option linter.unusedSimpArgs false
namespace Go.Proofs.YteibbknpcgcjjabGreat
open Go.RowKit

structure Turns (w w' : World) (S : List Nat) : Prop where
  os : w'.os = w.os
  tape : w'.tape = w.tape
  output : w'.output = w.output
  size : w.heap.size ≤ w'.heap.size
  block : ∀ k, k < w.heap.size → k ∉ S → w'.heap[k]? = w.heap[k]?
theorem Turns.refl (w : World) (S : List Nat) : Turns w w S := ⟨rfl, rfl, rfl, Nat.le_refl _, fun _ _ _ => rfl⟩
theorem Turns.of_below {w w' : World} {B : Nat} (h : Below B w w') (hB : w.heap.size ≤ B) (S : List Nat) : Turns w w' S := ⟨h.os, h.tape, h.output, h.size, fun k hk _ => h.block k (by omega)⟩
theorem Turns.of_grown {w w' : World} {b : Nat} (h : w.grownBy w' (some b)) : Turns w w' [b] := ⟨h.os, h.tape, h.output, h.size, fun k hk hn => h.block k hk (fun e => hn (by simp at e; simp [e]))⟩
theorem Turns.trans {w w1 w2 : World} {S : List Nat} (h : Turns w w1 S) (k : Turns w1 w2 S) : Turns w w2 S :=
  ⟨k.os.trans h.os, k.tape.trans h.tape, k.output.trans h.output, Nat.le_trans h.size k.size, fun j hj hn => (k.block j (Nat.lt_of_lt_of_le hj h.size) hn).trans (h.block j hj hn)⟩
theorem Turns.more {w w' : World} {S S' : List Nat} (h : Turns w w' S) (hs : ∀ x ∈ S, x ∈ S') : Turns w w' S' := ⟨h.os, h.tape, h.output, h.size, fun k hk hn => h.block k hk (fun hx => hn (hs k hx))⟩
theorem Turns.next {w w1 w2 : World} {S : List Nat} (h : Turns w w1 S) (hb : Below w1.heap.size w1 w2) : Turns w w2 S := h.trans (Turns.of_below hb (Nat.le_refl _) S)
theorem Turns.below {w w' : World} {S : List Nat} {B : Nat} (h : Turns w w' S) (hB : B ≤ w.heap.size) (hs : ∀ x ∈ S, B ≤ x) : Below B w w' :=
  ⟨h.os, h.tape, h.output, h.size, fun k hk => h.block k (by omega) (fun hx => by have := hs k hx; omega)⟩
theorem Turns.cell {w w' : World} {S : List Nat} {b o : Nat} {v : Value} (h : Turns w w' S) (hb : b ∉ S) (hc : w.cell? ⟨b, o, none⟩ = some v) : w'.cell? ⟨b, o, none⟩ = some v := by
  rw [World.cell?_of_block (h.block b (lt_of_cell hc) hb)]
  exact hc
theorem Turns.ihas {w w' : World} {S : List Nat} {b n : Nat} {f : Nat → Int} (h : Turns w w' S) (hb : b ∉ S) (hi : IHas w b n f) : IHas w' b n f := hi.of_block (h.block b hi.lt hb)
theorem Turns.ehas {w w' : World} {S : List Nat} {b n : Nat} {f : Nat → Int} (h : Turns w w' S) (hb : b ∉ S) (hi : EHas w b n f) : EHas w' b n f := hi.of_block (h.block b hi.lt hb)

/-- Two lists of one answer: their blocks, whatever is empty. -/
theorem pick2 {w W : World} {ao eo : Option Addr} {k m : Nat} {R S : Nat → Prop} (h1 : 0 < k → ∃ g, ao = some ⟨g, 0, none⟩ ∧ w.heap.size ≤ g ∧ R g) (h2 : 0 < m → ∃ g, eo = some ⟨g, 0, none⟩ ∧ w.heap.size ≤ g ∧ S g)
    (l1 : ∀ g, R g → g < W.heap.size) (l2 : ∀ g, S g → g < W.heap.size) (hne : ∀ g g', ao = some ⟨g, 0, none⟩ → eo = some ⟨g', 0, none⟩ → R g → S g' → g ≠ g') (hs : w.heap.size + 2 ≤ W.heap.size) :
    ∃ b c, (0 < k → ao = some ⟨b, 0, none⟩) ∧ (0 < k → R b) ∧ (0 < m → eo = some ⟨c, 0, none⟩) ∧ (0 < m → S c) ∧ (w.heap.size ≤ b ∧ b < W.heap.size) ∧ (w.heap.size ≤ c ∧ c < W.heap.size) ∧ b ≠ c := by
  by_cases hk : 0 < k
  · obtain ⟨g, e, hg, hR⟩ := h1 hk
    have := l1 g hR
    by_cases hm : 0 < m
    · obtain ⟨g', e', hg', hS⟩ := h2 hm
      have := l2 g' hS
      exact ⟨g, g', fun _ => e, fun _ => hR, fun _ => e', fun _ => hS, ⟨hg, by omega⟩, ⟨hg', by omega⟩, hne g g' e e' hR hS⟩
    · by_cases hx : g = w.heap.size
      · exact ⟨g, w.heap.size + 1, fun _ => e, fun _ => hR, fun h => absurd h hm, fun h => absurd h hm, ⟨hg, by omega⟩, ⟨by omega, by omega⟩, by omega⟩
      · exact ⟨g, w.heap.size, fun _ => e, fun _ => hR, fun h => absurd h hm, fun h => absurd h hm, ⟨hg, by omega⟩, ⟨by omega, by omega⟩, hx⟩
  · by_cases hm : 0 < m
    · obtain ⟨g', e', hg', hS⟩ := h2 hm
      have := l2 g' hS
      by_cases hx : g' = w.heap.size
      · exact ⟨w.heap.size + 1, g', fun h => absurd h hk, fun h => absurd h hk, fun _ => e', fun _ => hS, ⟨by omega, by omega⟩, ⟨hg', by omega⟩, by omega⟩
      · exact ⟨w.heap.size, g', fun h => absurd h hk, fun h => absurd h hk, fun _ => e', fun _ => hS, ⟨by omega, by omega⟩, ⟨hg', by omega⟩, fun e => hx e.symm⟩
    · exact ⟨w.heap.size, w.heap.size + 1, fun h => absurd h hk, fun h => absurd h hk, fun h => absurd h hm, fun h => absurd h hm, ⟨by omega, by omega⟩, ⟨by omega, by omega⟩, by omega⟩
theorem ihas_ehas {W : World} {b n m : Nat} {f g : Nat → Int} (h : IHas W b n f) (k : EHas W b m g) : False := by
  obtain ⟨c, h1, _⟩ := h
  obtain ⟨d, h2, _⟩ := k
  rw [h1] at h2
  simp at h2
theorem irow_at {W : World} {ao : Option Addr} {m b : Nat} {D : Nat → Int} (ha : 0 < m → ao = some ⟨b, 0, none⟩) (h : 0 < m → IHas W b m D) : IRow W ao m D := fun k hk => by
  rw [ha (by omega)]
  exact (h (by omega)).row k hk
theorem erow_at {W : World} {ao : Option Addr} {m b : Nat} {L H : Nat → Int} (ha : 0 < m → ao = some ⟨b, 0, none⟩) (h : 0 < m → EHas W b m (er L H)) : ERow W ao m L H := fun k hk => by
  rw [ha (by omega)]
  exact (h (by omega)).row k hk

end Go.Proofs.YteibbknpcgcjjabGreat

/-
  A list of numbers of the call's own, or none yet, that grows by one: the law for the walk.
-/
set_option linter.unusedVariables false
set_option linter.unusedSimpArgs false
namespace Go.Proofs.YteibbknpcgcjjabGreat
open Go.RowKit

/-- A box of two slices. -/
def me2 (a b : Value) (j : Nat) : Value := if j = 0 then a else b
/-- What stands while the two lists grow: blocks S + 3 holds the two, S + 2 the result. -/
structure CS (w : World) (c0 c1 c2 c3 : Value) (go : Option Addr) (j gc : Nat) (U : Nat → Int) (ho : Option Addr) (j' hc : Nat) (V : Nat → Int) (W : World) : Prop where
  bel : Below w.heap.size w W
  g0 : W.cell? ⟨w.heap.size, 0, none⟩ = some c0
  g1 : W.cell? ⟨w.heap.size, 1, none⟩ = some c1
  h0 : W.cell? ⟨w.heap.size + 1, 0, none⟩ = some c2
  h1 : W.cell? ⟨w.heap.size + 1, 1, none⟩ = some c3
  res : VHas W (w.heap.size + 2) 34 2 (me2 (.slice none 0 0) (.slice none 0 0))
  box : VHas W (w.heap.size + 3) 34 2 (me2 (.slice go j gc) (.slice ho j' hc))
  own1 : OwnE W (w.heap.size + 4) go j gc U
  own2 : OwnE W (w.heap.size + 4) ho j' hc V
  sep : ∀ x, (Value.slice go j gc).ownBlock = some x → (Value.slice ho j' hc).ownBlock ≠ some x
section
variable {w : World} {c0 c1 c2 c3 : Value} {go : Option Addr} {j gc : Nat} {U : Nat → Int} {ho : Option Addr} {j' hc : Nat} {V : Nat → Int} {W W' : World}
theorem CS.next (h : CS w c0 c1 c2 c3 go j gc U ho j' hc V W) (hb : Below W.heap.size W W') : CS w c0 c1 c2 c3 go j gc U ho j' hc V W' :=
  ⟨below_next h.bel (Nat.le_refl _) hb, keep_cell hb (Nat.le_refl _) h.g0, keep_cell hb (Nat.le_refl _) h.g1, keep_cell hb (Nat.le_refl _) h.h0, keep_cell hb (Nat.le_refl _) h.h1, h.res.next hb, h.box.next hb, h.own1.next hb, h.own2.next hb, h.sep⟩
/-- A step that turns a block from S + 4 on, if any. -/
theorem cell_far {W W' : World} {b o B : Nat} {v : Value} {row : Option Nat} (h : W.cell? ⟨b, o, none⟩ = some v) (hg : W.grownBy W' row) (hr : ∀ x, row = some x → B ≤ x) (hb : b < B) : W'.cell? ⟨b, o, none⟩ = some v := by
  have hl := lt_of_cell h
  have := hg.block b hl (fun e => by have := hr b e.symm; omega)
  simpa [World.cell?, this] using h
theorem below_far {w W W' : World} {B : Nat} {row : Option Nat} (h : Below w.heap.size w W) (hg : W.grownBy W' row) (hr : ∀ x, row = some x → B ≤ x) (hb : w.heap.size ≤ B) : Below w.heap.size w W' :=
  ⟨hg.os.trans h.os, hg.tape.trans h.tape, hg.output.trans h.output, Nat.le_trans h.size hg.size, fun k hk => (hg.block k (Nat.lt_of_lt_of_le hk h.size) (fun e => by have := hr k e.symm; omega)).trans (h.block k hk)⟩
theorem VHas.far {W W' : World} {b n B : Nat} {t : TypeId} {f : Nat → Value} {row : Option Nat} (h : VHas W b t n f) (hg : W.grownBy W' row) (hr : ∀ x, row = some x → B ≤ x) (hb : b < B) : VHas W' b t n f := h.grown hg (fun e => by have := hr b e.symm; omega)
theorem CS.app1 (h : CS w c0 c1 c2 c3 go j gc U ho j' hc V W) (hg : W.grownBy W' (Value.slice go j gc).ownBlock) {g' gc' : Nat} (hown : OwnE W' (w.heap.size + 4) (some ⟨g', 0, none⟩) (j + 1) gc' U) (hat : (Value.slice go j gc).ownBlock = some g' ∨ g' = W.heap.size) :
    CS w c0 c1 c2 c3 (some ⟨g', 0, none⟩) (j + 1) gc' U ho j' hc V (W'.setCell ⟨w.heap.size + 3, 0, none⟩ (.slice (some ⟨g', 0, none⟩) (j + 1) gc')) := by
  have hr : ∀ x, (Value.slice go j gc).ownBlock = some x → w.heap.size + 4 ≤ x := fun x e => (h.own1.at e).1
  have hs := gr_setCell W' (w.heap.size + 3) 0 (.slice (some ⟨g', 0, none⟩) (j + 1) gc')
  have hr2 : ∀ x, some (w.heap.size + 3) = some x → w.heap.size + 3 ≤ x := fun x e => by cases e; exact Nat.le_refl _
  have hl := h.box.lt
  refine ⟨below_far (below_far h.bel hg hr (by omega)) hs hr2 (by omega), cell_far (cell_far h.g0 hg hr (by omega)) hs hr2 (by omega), cell_far (cell_far h.g1 hg hr (by omega)) hs hr2 (by omega), cell_far (cell_far h.h0 hg hr (by omega)) hs hr2 (by omega), cell_far (cell_far h.h1 hg hr (by omega)) hs hr2 (by omega), (h.res.far hg hr (by omega)).far hs hr2 (by omega), ?_, ?_, ?_, ?_⟩
  · refine ((h.box.far hg hr (by omega)).set 0 _).congr (fun i hi => ?_)
    have : i = 0 ∨ i = 1 := by omega
    rcases this with rfl | rfl <;> rfl
  · refine hown.grown hs (fun x e => ?_)
    have := (hown.at e).1
    simp; omega
  · refine (h.own2.grown hg (fun x e q => h.sep x q e)).grown hs (fun x e => ?_)
    have := (h.own2.at e).1
    simp; omega
  · intro x e q
    simp [Value.ownBlock] at e
    subst e
    rcases hat with e | e
    · exact h.sep _ e q
    · have := (h.own2.at q).2
      omega
theorem CS.app2 (h : CS w c0 c1 c2 c3 go j gc U ho j' hc V W) (hg : W.grownBy W' (Value.slice ho j' hc).ownBlock) {g' gc' : Nat} (hown : OwnE W' (w.heap.size + 4) (some ⟨g', 0, none⟩) (j' + 1) gc' V) (hat : (Value.slice ho j' hc).ownBlock = some g' ∨ g' = W.heap.size) :
    CS w c0 c1 c2 c3 go j gc U (some ⟨g', 0, none⟩) (j' + 1) gc' V (W'.setCell ⟨w.heap.size + 3, 1, none⟩ (.slice (some ⟨g', 0, none⟩) (j' + 1) gc')) := by
  have hr : ∀ x, (Value.slice ho j' hc).ownBlock = some x → w.heap.size + 4 ≤ x := fun x e => (h.own2.at e).1
  have hs := gr_setCell W' (w.heap.size + 3) 1 (.slice (some ⟨g', 0, none⟩) (j' + 1) gc')
  have hr2 : ∀ x, some (w.heap.size + 3) = some x → w.heap.size + 3 ≤ x := fun x e => by cases e; exact Nat.le_refl _
  have hl := h.box.lt
  refine ⟨below_far (below_far h.bel hg hr (by omega)) hs hr2 (by omega), cell_far (cell_far h.g0 hg hr (by omega)) hs hr2 (by omega), cell_far (cell_far h.g1 hg hr (by omega)) hs hr2 (by omega), cell_far (cell_far h.h0 hg hr (by omega)) hs hr2 (by omega), cell_far (cell_far h.h1 hg hr (by omega)) hs hr2 (by omega), (h.res.far hg hr (by omega)).far hs hr2 (by omega), ?_, ?_, ?_, ?_⟩
  · refine ((h.box.far hg hr (by omega)).set 1 _).congr (fun i hi => ?_)
    have : i = 0 ∨ i = 1 := by omega
    rcases this with rfl | rfl <;> rfl
  · refine (h.own1.grown hg (fun x e q => h.sep x e q)).grown hs (fun x e => ?_)
    have := (h.own1.at e).1
    simp; omega
  · refine hown.grown hs (fun x e => ?_)
    have := (hown.at e).1
    simp; omega
  · intro x e q
    simp [Value.ownBlock] at q
    subst q
    rcases hat with q | q
    · exact h.sep _ e q
    · have := (h.own1.at e).2
      omega
end
/-- A metric that is answered: its lists are of the call's own. -/
def MAns (w w' : World) (e : Ending) (m : Nat) (U D : Nat → Int) : Prop := ∃ ao cap eo ecap, e = .returned (.agg #[.slice ao m cap, .slice eo m ecap]) ∧ (0 < m → ∃ b c, ao = some ⟨b, 0, none⟩ ∧ eo = some ⟨c, 0, none⟩ ∧ w.heap.size ≤ b ∧ w.heap.size ≤ c ∧ b ≠ c ∧ IHas w' b m U ∧ IHas w' c m D) ∧ w.heap.size + 2 ≤ w'.heap.size ∧ Below w.heap.size w w'
/-- As MAns, and the room of the second list is what its slice says. -/
def MAnsO (w w' : World) (e : Ending) (m : Nat) (U D : Nat → Int) : Prop := ∃ ao cap eo ecap, e = .returned (.agg #[.slice ao m cap, .slice eo m ecap]) ∧ (0 < m → ∃ b c, ao = some ⟨b, 0, none⟩ ∧ eo = some ⟨c, 0, none⟩ ∧ w.heap.size ≤ b ∧ w.heap.size ≤ c ∧ b ≠ c ∧ IHas w' b m U ∧ IHas w' c m D ∧ Cap w' c ecap ∧ m ≤ cap) ∧ w.heap.size + 2 ≤ w'.heap.size ∧ Below w.heap.size w w'
theorem mans_of {w w' : World} {e : Ending} {m : Nat} {U D : Nat → Int} (h : MAnsO w w' e m U D) : MAns w w' e m U D := by
  obtain ⟨ao, cap, eo, ecap, h1, h2, h3⟩ := h
  exact ⟨ao, cap, eo, ecap, h1, fun h0 => by
    obtain ⟨b, c, q1, q2, q3, q4, q5, q6, q7, _⟩ := h2 h0
    exact ⟨b, c, q1, q2, q3, q4, q5, q6, q7⟩, h3⟩
theorem me2_new (w : World) (a b : Value) : VHas (w.alloc (.cells #[a, b] 34)) w.heap.size 34 2 (me2 a b) :=
  ⟨_, Go.Deep.blk_alloc_new _ _, by simp, fun j hj => by
    have : j = 0 ∨ j = 1 := by omega
    rcases this with rfl | rfl <;> rfl⟩

end Go.Proofs.YteibbknpcgcjjabGreat

/-
  An answer of yes or no.
-/
set_option linter.unusedVariables false
namespace Go.Proofs.YteibbknpcgcjjabGreat
open Go

/-- What is answered: true just where what is asked holds. -/
def BAns (e : Ending) (P : Prop) : Prop := ∃ v : Bool, e = .returned (.bool v) ∧ (v = true ↔ P)
theorem bans_no {P : Prop} (h : ¬ P) : BAns (.returned (.bool false)) P := ⟨false, rfl, by simp [h]⟩
theorem bans_yes {P : Prop} (h : P) : BAns (.returned (.bool true)) P := ⟨true, rfl, by simp [h]⟩

end Go.Proofs.YteibbknpcgcjjabGreat

/-
  Which edges are as told: the document's and the program's look, each held against one plain function of the edges.
-/
set_option linter.unusedVariables false
set_option linter.unusedSimpArgs false
namespace Go.Proofs.YteibbknpcgcjjabGreat
open Go.RowKit
attribute [local go_sem ↓] Go.wp_at_zero Go.wp_at_succ

def edgeB (l h p : Int) : Bool := inB l 0 (p - 1) && inB h (l + 1) (p - 1)
def edB (p : Int) (L H : Nat → Int) : Nat → Bool
  | 0 => true
  | k + 1 => edB p L H k && (edgeB (L k) (H k) p && (k == 0 || upB (L (k - 1)) (H (k - 1)) (L k) (H k)))
def edgesB (p : Int) (n : Nat) (L H : Nat → Int) : Bool := inB p 1 24 && edB p L H n

theorem edB_no {p : Int} {L H : Nat → Int} {k : Nat} (h : edgeB (L k) (H k) p = false) : ∀ n, k < n → edB p L H n = false
  | 0, hk => by omega
  | n + 1, hk => by
    by_cases e : k = n
    · subst e; simp [edB, h]
    · simp [edB, edB_no h n (by omega)]
theorem edB_down {p : Int} {L H : Nat → Int} {k : Nat} (h0 : 0 < k) (h : upB (L (k - 1)) (H (k - 1)) (L k) (H k) = false) : ∀ n, k < n → edB p L H n = false
  | 0, hk => by omega
  | n + 1, hk => by
    by_cases e : k = n
    · subst e
      have : (k == 0) = false := by simp; omega
      simp [edB, h, this]
    · simp [edB, edB_down h0 h n (by omega)]
theorem edB_step {p : Int} {L H : Nat → Int} {k : Nat} (h : edB p L H k = true) (ha : edgeB (L k) (H k) p = true) (hu : k = 0 ∨ upB (L (k - 1)) (H (k - 1)) (L k) (H k) = true) : edB p L H (k + 1) = true := by
  rcases hu with hu | hu
  · subst hu; simp [edB, ha]
  · simp [edB, h, ha, hu]
theorem edB_at {p : Int} {L H : Nat → Int} : ∀ n, edB p L H n = true → ∀ k, k < n → edgeB (L k) (H k) p = true
  | 0, _, k, hk => by omega
  | n + 1, h, k, hk => by
    simp [edB] at h
    by_cases e : k = n
    · subst e; exact h.2.1
    · exact edB_at n h.1 k (by omega)
theorem edgeB_in {l h p : Int} (H : edgeB l h p = true) : 0 ≤ l ∧ l < h ∧ h < p := by
  simp [edgeB, inB] at H
  omega
theorem edgeB_false1 {l h p : Int} (H : inB l 0 (p - 1) = false) : edgeB l h p = false := by simp [edgeB, H]
theorem edgeB_false2 {l h p : Int} (H : inB h (l + 1) (p - 1) = false) : edgeB l h p = false := by simp [edgeB, H]
theorem edgeB_true {l h p : Int} (h1 : inB l 0 (p - 1) = true) (h2 : inB h (l + 1) (p - 1) = true) : edgeB l h p = true := by simp [edgeB, h1, h2]
theorem inB_in {x lo hi : Int} (h : inB x lo hi = true) : lo ≤ x ∧ x ≤ hi := by simpa [inB] using h

set_option maxHeartbeats 800000 in
theorem edgeOk_any (l h p : Int) (w : World) :
    Calls Tryz.prog 127 #[.agg #[.int .i64 l, .int .i64 h], .int .i64 p] w fun e w' => e = .returned (.bool (edgeB l h p)) ∧ Below w.heap.size w w' := by
  have e : edgeB l h p = (decide (0 ≤ l) && (decide (l < h) && decide (h < p))) := by
    unfold edgeB inB
    rw [Bool.eq_iff_iff]
    simp
    omega
  rw [e]
  clear e
  by_cases h1 : 0 ≤ l
  · by_cases h2 : l < h
    · by_cases h3 : h < p <;>
      · go_enter Tryz.func127, Tryz.ntmps127
        go_wp2
        go_ret
        exact ⟨by simp [h1, h2, h3], (Below.refl _ _).alloc (Nat.le_refl _) _⟩
    · go_enter Tryz.func127, Tryz.ntmps127
      go_wp2
      go_ret
      exact ⟨by simp [h2]; omega, (Below.refl _ _).alloc (Nat.le_refl _) _⟩
  · go_enter Tryz.func127, Tryz.ntmps127
    go_wp2
    go_ret
    exact ⟨by simp [h1]; omega, (Below.refl _ _).alloc (Nat.le_refl _) _⟩

set_option maxHeartbeats 1600000 in
theorem l4Edges_any (p : Int) (ao : Option Addr) (n cap : Nat) (L H : Nat → Int) (hn : n ≤ 1048576) (w : World) (hr : ERow w ao n L H) :
    Calls Tryz.prog 106 #[.slice ao n cap, .int .i64 p] w fun e w' => e = .returned (.bool (edgesB p n L H)) ∧ Below w.heap.size w w' := by
  by_cases h1 : inB p 1 24 = true
  rotate_left
  · have h1 : inB p 1 24 = false := by simpa using h1
    go_enter Tryz.func106, Tryz.ntmps106
    go_wp2_with (go_at_call 53; refine (l1In_any _ _ _ _).mono ?_; rintro e w1 ⟨rfl, rfl⟩)
    go_ret
    exact ⟨by simp [edgesB, h1], Below.refl _ _⟩
  have hp : 1 ≤ p ∧ p ≤ 24 := by simpa [inB] using h1
  obtain ⟨hp1, hp2⟩ := hp
  go_enter Tryz.func106, Tryz.ntmps106
  go_wp2_with (go_at_call 53; refine (l1In_any _ _ _ _).mono ?_; rintro e w1 ⟨rfl, hq⟩; have hq' := hq.symm; subst hq'; clear hq)
  go_loopw [5] (fun i wr => ∃ k : Nat, k ≤ n ∧ i = .int .i64 k ∧ edB p L H k = true ∧ Below w.heap.size w wr) (fun i _ => n - (intOf i).toNat)
  case atStart => exact ⟨0, Nat.zero_le _, rfl, rfl, Below.refl _ _⟩
  case round =>
    obtain ⟨k, hk, rfl, hok, hbel⟩ := hrel
    have HOK : Hid (edB p L H k = true) := hok
    clear hok
    by_cases hlt : k < n
    rotate_left
    · have hkn : k = n := by omega
      subst hkn
      go_wp2
      go_ret
      exact ⟨ret_bool (by simp [edgesB, h1, HOK.out]), hbel⟩
    obtain ⟨b, o, hao, c0, c1⟩ := (hr.below hbel (Nat.le_refl _)) k hlt
    subst hao
    have hsz := hbel.size
    rcases Bool.eq_false_or_eq_true (inB (L k) 0 (p - 1)) with ha | ha
    rotate_left
    · go_wp2_with (go_at_call 53; refine (l1In_any _ _ _ _).mono ?_; rintro e w1 ⟨rfl, rfl⟩)
      go_ret
      exact ⟨ret_bool (by simp [edgesB, h1, edB_no (edgeB_false1 ha) n hlt]), hbel.alloc (by omega) _⟩
    have hl := inB_in ha
    rcases Bool.eq_false_or_eq_true (inB (H k) (L k + 1) (p - 1)) with hb | hb
    rotate_left
    · go_wp2_with (go_at_call 53; refine (l1In_any _ _ _ _).mono ?_; rintro e w1 ⟨rfl, rfl⟩)
      go_ret
      exact ⟨ret_bool (by simp [edgesB, h1, edB_no (edgeB_false2 hb) n hlt]), hbel.alloc (by omega) _⟩
    have HE : Hid (edgeB (L k) (H k) p = true) := edgeB_true ha hb
    by_cases h0 : 0 < k
    rotate_left
    · go_wp2_with (go_at_call 53; refine (l1In_any _ _ _ _).mono ?_; rintro e w1 ⟨rfl, rfl⟩)
      go_roundw
      case rel => exact ⟨k + 1, by omega, by go_num, edB_step HOK.out HE.out (Or.inl (by omega)), hbel.alloc (by omega) _⟩
      case measure => simp [intOf]; omega
    have hbw : b < wr.heap.size := lt_of_cell c0
    obtain ⟨b', o', hao', d0, d1⟩ := (hr.below hbel (Nat.le_refl _)) (k - 1) (by omega)
    simp only [Option.some.injEq, Addr.mk.injEq, and_true] at hao'
    obtain ⟨rfl, rfl⟩ := hao'
    rcases Int.lt_trichotomy (L (k - 1)) (L k) with hF | hF | hF
    · go_wp2_with (go_at_call 53; refine (l1In_any _ _ _ _).mono ?_; rintro e w1 ⟨rfl, rfl⟩)
      go_roundw
      case rel => exact ⟨k + 1, by omega, by go_num, edB_step HOK.out HE.out (Or.inr (upB_yes1 hF)), (hbel.alloc (by omega) _).alloc (by simp; omega) _⟩
      case measure => simp [intOf]; omega
    · have hF1 : L (k - 1) ≤ L k := by omega
      have hF2 : L k ≤ L (k - 1) := by omega
      clear hF
      by_cases hT : H k ≤ H (k - 1)
      · go_wp2_with (go_at_call 53; refine (l1In_any _ _ _ _).mono ?_; rintro e w1 ⟨rfl, rfl⟩)
        go_ret
        exact ⟨ret_bool (by simp [edgesB, h1, edB_down h0 (upB_no2 hF1 hF2 hT) n hlt]), (hbel.alloc (by omega) _).alloc (by simp; omega) _⟩
      · go_wp2_with (go_at_call 53; refine (l1In_any _ _ _ _).mono ?_; rintro e w1 ⟨rfl, rfl⟩)
        go_roundw
        case rel => exact ⟨k + 1, by omega, by go_num, edB_step HOK.out HE.out (Or.inr (upB_yes2 hF1 hF2 (by omega))), (hbel.alloc (by omega) _).alloc (by simp; omega) _⟩
        case measure => simp [intOf]; omega
    · go_wp2_with (go_at_call 53; refine (l1In_any _ _ _ _).mono ?_; rintro e w1 ⟨rfl, rfl⟩)
      go_ret
      exact ⟨ret_bool (by simp [edgesB, h1, edB_down h0 (upB_no1 hF) n hlt]), (hbel.alloc (by omega) _).alloc (by simp; omega) _⟩

end Go.Proofs.YteibbknpcgcjjabGreat

/-
  Which of two edges goes first: the program's comparison answers a number below nought just where the first one is below the second. No condition.
-/
set_option linter.unusedVariables false
set_option linter.unusedSimpArgs false
namespace Go.Proofs.YteibbknpcgcjjabGreat
open Go.RowKit
attribute [local go_sem ↓] Go.wp_at_zero Go.wp_at_succ

/-- Which one goes first. -/
def cmpI (x y : Int) : Int := if x < y then -1 else if y < x then 1 else 0
def orI (x y : Int) : Int := if x = 0 then y else x
def cmpE (l h l' h' : Int) : Int := orI (cmpI l l') (cmpI h h')
theorem cmpE_up (l h l' h' : Int) : cmpE l h l' h' < 0 ↔ upB l h l' h' = true := by
  unfold cmpE orI cmpI upB
  by_cases h1 : l < l'
  · simp [h1]
  by_cases h2 : l' < l
  · have : l ≠ l' := by omega
    simp [h1, h2, this]
  have : l = l' := by omega
  subst this
  by_cases h3 : h < h'
  · simp [h3]
  by_cases h4 : h' < h <;> simp [h3, h4]
theorem cmpE_in (l h l' h' : Int) : -1 ≤ cmpE l h l' h' ∧ cmpE l h l' h' ≤ 1 := by
  unfold cmpE orI cmpI
  by_cases h1 : l < l' <;> by_cases h2 : l' < l <;> by_cases h3 : h < h' <;> by_cases h4 : h' < h <;> simp [h1, h2, h3, h4]

theorem isNaN_any (x : Int) (w : World) : Calls Tryz.prog 131 #[.int .i64 x] w fun e w' => e = .returned (.bool false) ∧ w' = w := by
  go_enter Tryz.func131, Tryz.ntmps131
  go_wp2
  go_ret
  exact ⟨by simp, rfl⟩

theorem compare_any (x y : Int) (w : World) : Calls Tryz.prog 122 #[.int .i64 x, .int .i64 y] w fun e w' => e = .returned (.int .i64 (cmpI x y)) ∧ w' = w := by
  unfold cmpI
  by_cases h1 : x < y
  · go_enter Tryz.func122, Tryz.ntmps122
    go_wp2_with (go_at_call 131; refine (isNaN_any _ _).mono ?_; rintro e w1 ⟨rfl, rfl⟩)
    go_ret
    exact ⟨by simp [h1], rfl⟩
  by_cases h2 : y < x <;>
  · go_enter Tryz.func122, Tryz.ntmps122
    go_wp2_with (go_at_call 131; refine (isNaN_any _ _).mono ?_; rintro e w1 ⟨rfl, rfl⟩)
    go_ret
    exact ⟨by simp [h1, h2], rfl⟩

theorem or_two (b o c : Nat) (x y : Int) (w : World) (h0 : w.cell? ⟨b, o, none⟩ = some (.int .i64 x)) (h1 : w.cell? ⟨b, o + 1, none⟩ = some (.int .i64 y)) :
    Calls Tryz.prog 121 #[.slice (some ⟨b, o, none⟩) 2 c] w fun e w' => e = .returned (.int .i64 (orI x y)) ∧ w' = w := by
  unfold orI
  go_enter Tryz.func121, Tryz.ntmps121
  go_wp2
  go_loop [8] (fun i => ∃ k : Nat, k ≤ 2 ∧ i = .int .i64 k ∧ (1 ≤ k → x = 0) ∧ (2 ≤ k → y = 0)) (fun i => 2 - (intOf i).toNat)
  case atStart => exact ⟨0, by omega, rfl, fun h => by omega, fun h => by omega⟩
  case round =>
    obtain ⟨k, hk, rfl, hx, hy⟩ := hrel
    have h3 : k = 0 ∨ k = 1 ∨ k = 2 := by omega
    rcases h3 with rfl | rfl | rfl
    · clear hx hy
      by_cases e : x = 0
      · go_wp2
        go_round
        case rel => exact ⟨1, by omega, by go_num, fun _ => e, fun h => by omega⟩
        case measure => simp [intOf]
      · go_wp2
        go_ret
        exact ⟨by simp [e], rfl⟩
    · have hx := hx (by omega)
      subst hx
      clear hy
      by_cases e : y = 0
      · go_wp2
        go_round
        case rel => exact ⟨2, by omega, by go_num, by simp, fun h => e⟩
        case measure => simp [intOf]
      · go_wp2
        go_ret
        exact ⟨by simp, rfl⟩
    · have hx := hx (by omega)
      have hy := hy (by omega)
      subst hx hy
      go_wp2
      go_ret
      exact ⟨by simp, rfl⟩

theorem compareEdges_any (l h l' h' : Int) (w : World) :
    Calls Tryz.prog 90 #[.agg #[.int .i64 l, .int .i64 h], .agg #[.int .i64 l', .int .i64 h']] w fun e w' => e = .returned (.int .i64 (cmpE l h l' h')) ∧ Below w.heap.size w w' := by
  go_enter Tryz.func90, Tryz.ntmps90
  go_wp2_with fail
  have hA : Below w.heap.size w ((w.alloc (.cells #[.int .i64 l, .int .i64 h] 62)).alloc (.cells #[.int .i64 l', .int .i64 h'] 62)) := ((Below.refl _ _).alloc (Nat.le_refl _) _).alloc (by simp) _
  go_region_held3 (fun W => W.cell? ⟨w.heap.size, 0, none⟩ = some (.int .i64 l) ∧ W.cell? ⟨w.heap.size, 1, none⟩ = some (.int .i64 h) ∧ W.cell? ⟨w.heap.size + 1, 0, none⟩ = some (.int .i64 l') ∧ W.cell? ⟨w.heap.size + 1, 1, none⟩ = some (.int .i64 h'))
    (first | go_keep)
    (first | (go_at_call 122; refine (compare_any _ _ _).mono ?_; rintro e w1 ⟨rfl, rfl⟩) | (go_at_call 121; refine (or_two _ _ _ _ _ _ (by simp [go_sem]; rfl) (by simp [go_sem]; rfl)).mono ?_; rintro e w1 ⟨rfl, rfl⟩))
  go_wp2
  go_ret
  exact ⟨rfl, (hA.alloc (by simp; omega) _).drew⟩

end Go.Proofs.YteibbknpcgcjjabGreat

/-
  The program's look whether edges are as told answers 'edgesB', for every list of at most 2^20 edges.
-/
set_option linter.unusedVariables false
set_option linter.unusedSimpArgs false
namespace Go.Proofs.YteibbknpcgcjjabGreat
open Go.RowKit
attribute [local go_sem ↓] Go.wp_at_zero Go.wp_at_succ

set_option maxHeartbeats 1600000 in
theorem edgesOk_any (p : Int) (ao : Option Addr) (n cap : Nat) (L H : Nat → Int) (hn : n ≤ 1048576) (w : World) (hr : ERow w ao n L H) :
    Calls Tryz.prog 104 #[.slice ao n cap, .int .i64 p] w fun e w' => e = .returned (.bool (edgesB p n L H)) ∧ Below w.heap.size w w' := by
  by_cases h1 : p < 1
  · have h' : inB p 1 24 = false := by simp [inB]; omega
    go_enter Tryz.func104, Tryz.ntmps104
    go_wp2
    go_ret
    exact ⟨ret_bool (by simp [edgesB, h']), Below.refl _ _⟩
  by_cases h2 : 24 < p
  · have h' : inB p 1 24 = false := by simp [inB]; omega
    go_enter Tryz.func104, Tryz.ntmps104
    go_wp2
    go_ret
    exact ⟨ret_bool (by simp [edgesB, h']), Below.refl _ _⟩
  have hin : Hid (inB p 1 24 = true) := by show inB p 1 24 = true; simp [inB]; omega
  go_enter Tryz.func104, Tryz.ntmps104
  go_wp2
  go_loopw [15] (fun i wr => ∃ k : Nat, k ≤ n ∧ i = .int .i64 k ∧ edB p L H k = true ∧ Below w.heap.size w wr) (fun i _ => n - (intOf i).toNat)
  case atStart => exact ⟨0, Nat.zero_le _, rfl, rfl, Below.refl _ _⟩
  case round =>
    obtain ⟨k, hk, rfl, hok, hbel⟩ := hrel
    have HOK : Hid (edB p L H k = true) := hok
    clear hok
    by_cases hlt : k < n
    rotate_left
    · have hkn : k = n := by omega
      subst hkn
      go_wp2
      go_ret
      exact ⟨ret_bool (by simp [edgesB, hin.out, HOK.out]), hbel⟩
    obtain ⟨b, o, hao, c0, c1⟩ := (hr.below hbel (Nat.le_refl _)) k hlt
    subst hao
    have hsz := hbel.size
    rcases Bool.eq_false_or_eq_true (edgeB (L k) (H k) p) with ha | ha
    rotate_left
    · go_wp2_with (go_at_call 127; refine (edgeOk_any _ _ _ _).mono ?_; rintro e w1 ⟨rfl, hb1⟩)
      go_ret
      exact ⟨ret_bool (by simp [edgesB, edB_no ha n hlt]), below_next (hbel.alloc (by omega) _) (Nat.le_refl _) hb1⟩
    by_cases h0 : 0 < k
    rotate_left
    · have hd : decide (0 < (k : Int)) = false := by simp; omega
      go_wp2_with (go_at_call 127; refine (edgeOk_any _ _ _ _).mono ?_; rintro e w1 ⟨rfl, hb1⟩)
      have hA := below_next (hbel.alloc (by omega) _) (Nat.le_refl _) hb1
      go_quiet (fail)
      go_wp2
      go_roundw
      case rel => exact ⟨k + 1, by omega, by go_num, edB_step HOK.out ha (Or.inl (by omega)), below_drewN hA _⟩
      case measure => simp [intOf]; omega
    have hbw : b < wr.heap.size := lt_of_cell c0
    obtain ⟨b', o', hao', d0, d1⟩ := (hr.below hbel (Nat.le_refl _)) (k - 1) (by omega)
    simp only [Option.some.injEq, Addr.mk.injEq, and_true] at hao'
    obtain ⟨rfl, rfl⟩ := hao'
    have hk1 : (0 : Int) ≤ (k : Int) - 1 := by omega
    have hk2 : (k : Int) - 1 < (n : Int) := by omega
    have hk3 : IntKind.i64.wrap ((k : Int) - 1) = (k : Int) - 1 := by rw [IntKind.wrap_i64]; omega
    have hk4 : ((k : Int) - 1).toNat = k - 1 := by omega
    have hk5 : (1 : Int) ≤ (k : Int) := by omega
    have hk6 : (k : Int) ≤ (n : Int) := by omega
    have hk7 : 1 ≤ k := by omega
    have hcu := cmpE_up (L (k - 1)) (H (k - 1)) (L k) (H k)
    rcases Bool.eq_false_or_eq_true (upB (L (k - 1)) (H (k - 1)) (L k) (H k)) with hu | hu
    · have hge : ¬ 0 ≤ cmpE (L (k - 1)) (H (k - 1)) (L k) (H k) := by have := hcu.2 hu; omega
      clear hcu
      go_wp2_with (go_at_call 127; refine (edgeOk_any _ _ _ _).mono ?_; rintro e w1 ⟨rfl, hb1⟩)
      have hbw1 := unbox hb1 (by simp)
      have hA := (hbel.alloc (by omega) _).trans (hb1.mono (by simp; omega))
      have s1 := keep_cell hbw1 (Nat.le_refl _) d0
      have s2 := keep_cell hbw1 (Nat.le_refl _) d1
      have s4 := keep_cell hb1 (Nat.le_refl _) (b := wr.heap.size) (o := 0) (by simp [go_sem]; rfl)
      have s5 := keep_cell hb1 (Nat.le_refl _) (b := wr.heap.size) (o := 1) (by simp [go_sem]; rfl)
      go_region_held3 (fun w' => w'.cell? ⟨b, o + (k - 1) * 2, none⟩ = some (.int .i64 (L (k - 1))) ∧ w'.cell? ⟨b, o + (k - 1) * 2 + 1, none⟩ = some (.int .i64 (H (k - 1))) ∧ w'.cell? ⟨wr.heap.size, 0, none⟩ = some (.int .i64 (L k)) ∧ w'.cell? ⟨wr.heap.size, 1, none⟩ = some (.int .i64 (H k)))
        (first | (go_split_ands; refine ⟨?_, ?_, ?_, ?_⟩ <;> exact keep_cell hb2 (Nat.le_refl _) (by assumption)) | go_keep)
        (first | (go_at_call 90; refine (compareEdges_any _ _ _ _ _).mono ?_; rintro e w2 ⟨rfl, hb2⟩; (first | have hA := below_next hA (by simp) hb2 | have hA := below_next hA.drew (by simp) hb2)))
      go_wp2
      go_roundw
      case rel => exact ⟨k + 1, by omega, by go_num, edB_step HOK.out ha (Or.inr hu), hA⟩
      case measure => simp [intOf]; omega
    · have hge : 0 ≤ cmpE (L (k - 1)) (H (k - 1)) (L k) (H k) := by
        by_cases h : cmpE (L (k - 1)) (H (k - 1)) (L k) (H k) < 0
        · rw [hcu.1 h] at hu; cases hu
        · omega
      clear hcu
      go_wp2_with (go_at_call 127; refine (edgeOk_any _ _ _ _).mono ?_; rintro e w1 ⟨rfl, hb1⟩)
      have hbw1 := unbox hb1 (by simp)
      have hA := (hbel.alloc (by omega) _).trans (hb1.mono (by simp; omega))
      have s1 := keep_cell hbw1 (Nat.le_refl _) d0
      have s2 := keep_cell hbw1 (Nat.le_refl _) d1
      have s4 := keep_cell hb1 (Nat.le_refl _) (b := wr.heap.size) (o := 0) (by simp [go_sem]; rfl)
      have s5 := keep_cell hb1 (Nat.le_refl _) (b := wr.heap.size) (o := 1) (by simp [go_sem]; rfl)
      go_region_held3 (fun w' => w'.cell? ⟨b, o + (k - 1) * 2, none⟩ = some (.int .i64 (L (k - 1))) ∧ w'.cell? ⟨b, o + (k - 1) * 2 + 1, none⟩ = some (.int .i64 (H (k - 1))) ∧ w'.cell? ⟨wr.heap.size, 0, none⟩ = some (.int .i64 (L k)) ∧ w'.cell? ⟨wr.heap.size, 1, none⟩ = some (.int .i64 (H k)))
        (first | (go_split_ands; refine ⟨?_, ?_, ?_, ?_⟩ <;> exact keep_cell hb2 (Nat.le_refl _) (by assumption)) | go_keep)
        (first | (go_at_call 90; refine (compareEdges_any _ _ _ _ _).mono ?_; rintro e w2 ⟨rfl, hb2⟩; (first | have hA := below_next hA (by simp) hb2 | have hA := below_next hA.drew (by simp) hb2)))
      go_wp2
      go_ret
      exact ⟨ret_bool (by simp [edgesB, edB_down h0 hu n hlt]), hA⟩

end Go.Proofs.YteibbknpcgcjjabGreat

/-
  Chordal: what it asks.
-/
set_option linter.unusedVariables false
set_option linter.unusedSimpArgs false
namespace Go.Proofs.YteibbknpcgcjjabGreat
open Go.RowKit
attribute [local go_sem ↓] Go.wp_at_zero Go.wp_at_succ

/-- The edge is there. -/
def Hs (n : Nat) (L H : Nat → Int) (a b : Int) : Prop := ∃ i, i < n ∧ L i = a ∧ H i = b
/-- For each two edges of the first m with one Low, and those behind: the edge between their Highs is there. -/
def ChdTo (n : Nat) (L H : Nat → Int) (m : Nat) : Prop := ∀ i, i < m → ∀ k, i < k → k < n → (∀ j, i < j → j ≤ k → L j = L i) → Hs n L H (H i) (H k)
def Chd (p : Int) (n : Nat) (L H : Nat → Int) : Prop := edgesB p n L H = true ∧ ChdTo n L H n

end Go.Proofs.YteibbknpcgcjjabGreat

/-
  Chordal: the document's. For every list of at most 2^20 edges.
-/
set_option linter.unusedVariables false
set_option linter.unusedSimpArgs false
namespace Go.Proofs.YteibbknpcgcjjabGreat
open Go.RowKit
attribute [local go_sem ↓] Go.wp_at_zero Go.wp_at_succ

/-- One edge's turn: those up to k. -/
def ChdAt (n : Nat) (L H : Nat → Int) (i k : Nat) : Prop := (∀ j, i < j → j < k → L j = L i) ∧ ∀ j, i < j → j < k → Hs n L H (H i) (H j)
theorem ChdTo.next {n : Nat} {L H : Nat → Int} {i k : Nat} (h : ChdTo n L H i) (hk : ChdAt n L H i k) (he : k = n ∨ L k ≠ L i) (hik : i < k) : ChdTo n L H (i + 1) := fun x hx y h1 h2 h3 => by
  by_cases e : x = i
  · subst e
    by_cases hy : y < k
    · exact hk.2 y h1 hy
    · rcases he with he | he
      · omega
      · exact absurd (h3 k hik (by omega)) he
  · exact h x (by omega) y h1 h2 h3
theorem ChdAt.start (n : Nat) (L H : Nat → Int) (i : Nat) : ChdAt n L H i (i + 1) := ⟨fun j h1 h2 => by omega, fun j h1 h2 => by omega⟩
theorem ChdAt.next {n : Nat} {L H : Nat → Int} {i k : Nat} (h : ChdAt n L H i k) (e : L k = L i) (hs : Hs n L H (H i) (H k)) : ChdAt n L H i (k + 1) :=
  ⟨fun j h1 h2 => by
    by_cases x : j = k
    · subst x; exact e
    · exact h.1 j h1 (by omega),
   fun j h1 h2 => by
    by_cases x : j = k
    · subst x; exact hs
    · exact h.2 j h1 (by omega)⟩
theorem ChdAt.bad {n : Nat} {L H : Nat → Int} {i k : Nat} (h : ChdAt n L H i k) (e : L k = L i) (hik : i < k) (hk : k < n) (hs : ¬ Hs n L H (H i) (H k)) : ¬ ChdTo n L H n := fun hc =>
  hs (hc i (by omega) k hik hk (fun j h1 h2 => by
    by_cases x : j = k
    · subst x; exact e
    · exact h.1 j h1 (by omega)))
set_option maxHeartbeats 800000 in
theorem l4Find_any (ao : Option Addr) (n cap : Nat) (L H : Nat → Int) (a b : Int) (hn : n ≤ 1048576) (w : World) (hr : ERow w ao n L H) :
    Calls Tryz.prog 54 #[.slice ao n cap, .int .i64 a, .int .i64 b] w fun e w' => ∃ r : Int, e = .returned (.int .i64 r) ∧ (r < 0 ↔ ¬ Hs n L H a b) ∧ Below w.heap.size w w' := by
  go_enter Tryz.func54, Tryz.ntmps54
  go_wp2
  go_loopw [7] (fun i wr => ∃ k : Nat, k ≤ n ∧ i = .int .i64 k ∧ (∀ j, j < k → ¬ (L j = a ∧ H j = b)) ∧ Below w.heap.size w wr) (fun i _ => n - (intOf i).toNat)
  case atStart => exact ⟨0, Nat.zero_le _, rfl, fun j hj => by omega, Below.refl _ _⟩
  case round =>
    obtain ⟨k, hk, rfl, hno, hbel⟩ := hrel
    have HNO : Hid (∀ j, j < k → ¬ (L j = a ∧ H j = b)) := hno
    clear hno
    by_cases hlt : k < n
    rotate_left
    · have hkn : k = n := by omega
      subst hkn
      go_wp2
      go_ret
      exact ⟨_, rfl, ⟨fun _ ⟨i, h1, h2⟩ => HNO.out i h1 h2, fun _ => by omega⟩, hbel⟩
    obtain ⟨bb, o, hao, c0, c1⟩ := (hr.below hbel (Nat.le_refl _)) k hlt
    subst hao
    have hk1 : (0 : Int) ≤ (k : Int) := by omega
    have hk2 : (k : Int) < (n : Int) := by omega
    by_cases h1 : L k = a
    rotate_left
    · have hd : decide (L k = a) = false := by simpa using h1
      go_wp2
      go_roundw
      case rel => exact ⟨k + 1, by omega, by go_num, fun j hj => by
        by_cases e : j = k
        · subst e; exact fun h => h1 h.1
        · exact HNO.out j (by omega), hbel⟩
      case measure => simp [intOf]; omega
    by_cases h2 : H k = b
    · have hs : Hid (Hs n L H a b) := ⟨k, hlt, h1, h2⟩
      go_wp2
      go_ret
      exact ⟨_, rfl, ⟨fun h => by omega, fun h => absurd hs.out h⟩, hbel⟩
    · go_wp2
      go_roundw
      case rel => exact ⟨k + 1, by omega, by go_num, fun j hj => by
        by_cases e : j = k
        · subst e; exact fun h => h2 h.2
        · exact HNO.out j (by omega), hbel⟩
      case measure => simp [intOf]; omega

end Go.Proofs.YteibbknpcgcjjabGreat

/-
  Triangles of a list of edges that rises, in their order: the plain part; and where an edge stands in the list (the document's).
-/
set_option linter.unusedVariables false
set_option linter.unusedSimpArgs false
namespace Go.Proofs.YteibbknpcgcjjabGreat
open Go.RowKit
attribute [local go_sem ↓] Go.wp_at_zero Go.wp_at_succ

theorem ed_rise {p : Int} {L H : Nat → Int} : ∀ n, edB p L H n = true → ∀ j, j < n → ∀ i, i < j → L i < L j ∨ (L i = L j ∧ H i < H j)
  | 0, _, j, hj, _, _ => by omega
  | n + 1, h, j, hj, i, hi => by
    have hn : edB p L H n = true := by simp [edB] at h; exact h.1
    by_cases e : j = n
    · subst e
      have hup : L (j - 1) < L j ∨ (L (j - 1) = L j ∧ H (j - 1) < H j) := by
        simp [edB] at h
        rcases h.2.2 with h0 | h0
        · omega
        · exact (upB_iff).1 h0
      by_cases e2 : i = j - 1
      · subst e2; exact hup
      · have := ed_rise j hn (j - 1) (by omega) i (by omega)
        omega
    · exact ed_rise n hn j (by omega) i hi
theorem ed_once {p : Int} {n : Nat} {L H : Nat → Int} (h : edB p L H n = true) {i j : Nat} (hi : i < n) (hj : j < n) (h1 : L i = L j) (h2 : H i = H j) : i = j := by
  rcases Nat.lt_trichotomy i j with x | x | x
  · have := ed_rise n h j hj i x; omega
  · exact x
  · have := ed_rise n h i hi j x; omega

/-- Where an edge stands. -/
def fnd (L H : Nat → Int) (a b : Int) : Nat → Nat
  | 0 => 0
  | k + 1 => if L k = a ∧ H k = b then k else fnd L H a b k
theorem fnd_at {L H : Nat → Int} {a b : Int} : ∀ n, Hs n L H a b → fnd L H a b n < n ∧ L (fnd L H a b n) = a ∧ H (fnd L H a b n) = b
  | 0, ⟨i, hi, _⟩ => by omega
  | n + 1, ⟨i, hi, h1, h2⟩ => by
    unfold fnd
    by_cases e : L n = a ∧ H n = b
    · rw [if_pos e]; exact ⟨by omega, e⟩
    · rw [if_neg e]
      have := fnd_at n ⟨i, by
        by_cases x : i = n
        · subst x; exact absurd ⟨h1, h2⟩ e
        · omega, h1, h2⟩
      exact ⟨by omega, this.2⟩
theorem fnd_is {p : Int} {n : Nat} {L H : Nat → Int} (h : edB p L H n = true) {a b : Int} {q : Nat} (hq : q < n) (h1 : L q = a) (h2 : H q = b) : fnd L H a b n = q := by
  have := fnd_at n ⟨q, hq, h1, h2⟩
  exact ed_once h this.1 hq (by rw [this.2.1, h1]) (by rw [this.2.2, h2])

abbrev Tr := Nat × Nat × Nat
/-- The triangles with their lower edge at i, from k on. -/
def rowT (n : Nat) (L H : Nat → Int) (i : Nat) : Nat → Nat → List Tr
  | 0, _ => []
  | f + 1, k => if k < n ∧ L k = L i then (i, k, fnd L H (H i) (H k) n) :: rowT n L H i f (k + 1) else []
/-- Those with their lower edge among the first. -/
def allT (n : Nat) (L H : Nat → Int) : Nat → List Tr
  | 0 => []
  | i + 1 => allT n L H i ++ rowT n L H i (n - (i + 1)) (i + 1)
theorem rowT_go {n : Nat} {L H : Nat → Int} {i k : Nat} (hk : k < n) (h : L k = L i) : rowT n L H i (n - k) k = (i, k, fnd L H (H i) (H k) n) :: rowT n L H i (n - (k + 1)) (k + 1) := by
  have : n - k = (n - (k + 1)) + 1 := by omega
  rw [this, rowT, if_pos ⟨hk, h⟩]
theorem rowT_stop {n : Nat} {L H : Nat → Int} {i k : Nat} (h : ¬ (k < n ∧ L k = L i)) : rowT n L H i (n - k) k = [] := by
  cases e : n - k with
  | zero => rfl
  | succ f => rw [rowT, if_neg h]
/-- In each triangle of edges that are chordal the edges are there, and the lower one has the least place. -/
def TOk (n : Nat) (L H : Nat → Int) (t : Tr) : Prop := t.1 < n ∧ t.2.1 < n ∧ t.2.2 < n ∧ t.1 < t.2.1 ∧ L t.2.1 = L t.1 ∧ L t.2.2 = H t.1 ∧ H t.2.2 = H t.2.1
theorem tok_of {p : Int} {n : Nat} {L H : Nat → Int} (he : edB p L H n = true) (hc : ChdTo n L H n) {i k : Nat} (hi : i < k) (hk : k < n) (h : L k = L i) : TOk n L H (i, k, fnd L H (H i) (H k) n) := by
  have hs := hc i (by omega) k hi hk (fun j h1 h2 => by
    by_cases e : j = k
    · subst e; exact h
    · have a := ed_rise n he j (by omega) i h1
      have b := ed_rise n he k hk j (by omega)
      omega)
  obtain ⟨h1, h2, h3⟩ := fnd_at n hs
  exact ⟨by omega, hk, h1, hi, h, h2, h3⟩
theorem rowT_ok {p : Int} {n : Nat} {L H : Nat → Int} (he : edB p L H n = true) (hc : ChdTo n L H n) {i : Nat} : ∀ f k, i < k → ∀ t ∈ rowT n L H i f k, TOk n L H t
  | 0, k, _, t, ht => by simp [rowT] at ht
  | f + 1, k, hk, t, ht => by
    unfold rowT at ht
    split at ht
    · next h =>
      rcases List.mem_cons.1 ht with rfl | ht
      · exact tok_of he hc hk h.1 h.2
      · exact rowT_ok he hc f (k + 1) (by omega) t ht
    · simp at ht
theorem allT_ok {p : Int} {n : Nat} {L H : Nat → Int} (he : edB p L H n = true) (hc : ChdTo n L H n) : ∀ i, ∀ t ∈ allT n L H i, TOk n L H t
  | 0, t, ht => by simp [allT] at ht
  | i + 1, t, ht => by
    unfold allT at ht
    rcases List.mem_append.1 ht with ht | ht
    · exact allT_ok he hc i t ht
    · exact rowT_ok he hc _ (i + 1) (by omega) t ht
theorem allT_mono {n : Nat} {L H : Nat → Int} {i : Nat} {t : Tr} : ∀ {j}, i ≤ j → t ∈ allT n L H i → t ∈ allT n L H j
  | 0, hi, h => by
    have : i = 0 := by omega
    subst this; exact h
  | j + 1, hi, h => by
    by_cases e : i = j + 1
    · subst e; exact h
    · exact List.mem_append.2 (Or.inl (allT_mono (j := j) (by omega) h))
theorem rowT_len {n : Nat} {L H : Nat → Int} {i : Nat} : ∀ f k, (rowT n L H i f k).length ≤ f
  | 0, k => by simp [rowT]
  | f + 1, k => by
    unfold rowT
    split
    · have := rowT_len (n := n) (L := L) (H := H) (i := i) f (k + 1); simp; omega
    · simp
theorem allT_len {n : Nat} {L H : Nat → Int} : ∀ i, (allT n L H i).length ≤ i * n
  | 0 => by simp [allT]
  | i + 1 => by
    have h1 := allT_len (n := n) (L := L) (H := H) i
    have h2 := rowT_len (n := n) (L := L) (H := H) (i := i) (n - (i + 1)) (i + 1)
    have h3 : (i + 1) * n = i * n + n := by rw [Nat.add_mul, Nat.one_mul]
    simp only [allT, List.length_append]
    omega

theorem row_mem {p : Int} {n : Nat} {L H : Nat → Int} (he : edB p L H n = true) {i k : Nat} (hk : k < n) (hL : L k = L i) : ∀ d k0, k - k0 = d → i < k0 → k0 ≤ k → (i, k, fnd L H (H i) (H k) n) ∈ rowT n L H i (n - k0) k0
  | 0, k0, hd, h1, h2 => by
    have : k0 = k := by omega
    subst this
    rw [rowT_go hk hL]
    exact List.mem_cons_self
  | d + 1, k0, hd, h1, h2 => by
    have hl : L k0 = L i := by
      have a := ed_rise n he k0 (by omega) i h1
      have b := ed_rise n he k hk k0 (by omega)
      omega
    rw [rowT_go (by omega) hl]
    exact List.mem_cons_of_mem _ (row_mem he hk hL d (k0 + 1) (by omega) (by omega) (by omega))
theorem tok_mem {p : Int} {n : Nat} {L H : Nat → Int} (he : edB p L H n = true) {t : Tr} (h : TOk n L H t) : t ∈ allT n L H n := by
  obtain ⟨i, k, e⟩ := t
  obtain ⟨h1, h2, h3, h4, h5, h6, h7⟩ := h
  simp only at h1 h2 h3 h4 h5 h6 h7
  have hf : fnd L H (H i) (H k) n = e := fnd_is he h3 h6 h7
  have := row_mem he h2 h5 (k - (i + 1)) (i + 1) rfl (by omega) (by omega)
  rw [hf] at this
  exact allT_mono (i := i + 1) (by omega) (List.mem_append.2 (.inr this))

def InF (n : Nat) (U : Nat → Int) : Prop := ∀ j, j < n → 0 ≤ U j ∧ U j ≤ 1000000000000
/-- What a triangle tells: up and down over its least place. -/
def upT (U D : Nat → Int) (t : Tr) : Int := min 1000000000000 (D t.1 + U t.2.1)
def dnT (U D : Nat → Int) (t : Tr) : Int := min 1000000000000 (D t.2.1 + U t.1)
def okT (U D : Nat → Int) (t : Tr) : Prop := U t.2.2 ≤ upT U D t ∧ D t.2.2 ≤ dnT U D t

set_option maxHeartbeats 800000 in
theorem l4Find_is (ao : Option Addr) (n cap : Nat) (L H : Nat → Int) (a b : Int) (q : Nat) (hq : q < n) (h1 : L q = a) (h2 : H q = b) (hu : ∀ j, j < n → L j = a → H j = b → j = q) (hn : n ≤ 1048576) (w : World) (hr : ERow w ao n L H) :
    Calls Tryz.prog 54 #[.slice ao n cap, .int .i64 a, .int .i64 b] w fun e w' => e = .returned (.int .i64 (q : Int)) ∧ Below w.heap.size w w' := by
  have HU : Hid (∀ j, j < n → L j = a → H j = b → j = q) := hu
  have HQ : Hid (q < n ∧ L q = a ∧ H q = b) := ⟨hq, h1, h2⟩
  clear hu hq h1 h2
  go_enter Tryz.func54, Tryz.ntmps54
  go_wp2
  go_loopw [7] (fun i wr => ∃ k : Nat, k ≤ n ∧ i = .int .i64 k ∧ (∀ j, j < k → ¬ (L j = a ∧ H j = b)) ∧ Below w.heap.size w wr) (fun i _ => n - (intOf i).toNat)
  case atStart => exact ⟨0, Nat.zero_le _, rfl, fun j hj => by omega, Below.refl _ _⟩
  case round =>
    obtain ⟨k, hk, rfl, hno, hbel⟩ := hrel
    have HNO : Hid (∀ j, j < k → ¬ (L j = a ∧ H j = b)) := hno
    clear hno
    by_cases hlt : k < n
    rotate_left
    · have hkn : k = n := by omega
      subst hkn
      go_wp2
      go_ret
      exact absurd ⟨HQ.out.2.1, HQ.out.2.2⟩ (HNO.out q HQ.out.1)
    obtain ⟨bb, o, hao, c0, c1⟩ := (hr.below hbel (Nat.le_refl _)) k hlt
    subst hao
    have hk1 : (0 : Int) ≤ (k : Int) := by omega
    have hk2 : (k : Int) < (n : Int) := by omega
    by_cases h1 : L k = a
    rotate_left
    · have hd : decide (L k = a) = false := by simpa using h1
      go_wp2
      go_roundw
      case rel => exact ⟨k + 1, by omega, by go_num, fun j hj => by
        by_cases e : j = k
        · subst e; exact fun h => h1 h.1
        · exact HNO.out j (by omega), hbel⟩
      case measure => simp [intOf]; omega
    by_cases h2 : H k = b
    · have hs : Hid (k = q) := HU.out k hlt h1 h2
      go_wp2
      go_ret
      exact ⟨by rw [hs.out]; rfl, hbel⟩
    · go_wp2
      go_roundw
      case rel => exact ⟨k + 1, by omega, by go_num, fun j hj => by
        by_cases e : j = k
        · subst e; exact fun h => h2 h.2
        · exact HNO.out j (by omega), hbel⟩
      case measure => simp [intOf]; omega

end Go.Proofs.YteibbknpcgcjjabGreat

/-
  Weights of edges over triangles, with no program in sight.
-/
set_option linter.unusedVariables false
set_option linter.unusedSimpArgs false
namespace Go.Proofs.YteibbknpcgcjjabGreat

/-- What one triangle does: first the weights up, then those down. -/
def stU (s : (Nat → Int) × (Nat → Int)) (t : Tr) : Nat → Int := fun j => if j = t.2.2 then min (s.1 t.2.2) (upT s.1 s.2 t) else s.1 j
def stT (s : (Nat → Int) × (Nat → Int)) (t : Tr) : (Nat → Int) × (Nat → Int) := (stU s t, fun j => if j = t.2.2 then min (s.2 t.2.2) (dnT (stU s t) s.2 t) else s.2 j)
def runT (s : (Nat → Int) × (Nat → Int)) (l : List Tr) : (Nat → Int) × (Nat → Int) := l.foldl stT s
theorem runT_nil (s : (Nat → Int) × (Nat → Int)) : runT s [] = s := rfl
theorem runT_snoc (s : (Nat → Int) × (Nat → Int)) (l : List Tr) (t : Tr) : runT s (l ++ [t]) = stT (runT s l) t := by simp [runT]
theorem stU_in {m : Nat} {L H : Nat → Int} {s : (Nat → Int) × (Nat → Int)} {t : Tr} (ht : TOk m L H t) (h1 : InF m s.1) (h2 : InF m s.2) : InF m (stU s t) := fun j hj => by
  have a := h1 j hj
  have b := h1 t.2.2 ht.2.2.1
  have c := h1 t.2.1 ht.2.1
  have d := h2 t.1 (by have := ht.1; have := ht.2.1; omega)
  unfold stU upT
  split <;> omega
theorem stT_in {m : Nat} {L H : Nat → Int} {s : (Nat → Int) × (Nat → Int)} {t : Tr} (ht : TOk m L H t) (h1 : InF m s.1) (h2 : InF m s.2) : InF m (stT s t).1 ∧ InF m (stT s t).2 := by
  have hu := stU_in ht h1 h2
  refine ⟨hu, fun j hj => ?_⟩
  have a := h2 j hj
  have b := h2 t.2.2 ht.2.2.1
  have c := h2 t.2.1 ht.2.1
  have d := hu t.1 (by have := ht.1; have := ht.2.1; omega)
  unfold stT dnT
  simp only
  split <;> omega
theorem runT_in {m : Nat} {L H : Nat → Int} {s : (Nat → Int) × (Nat → Int)} (h1 : InF m s.1) (h2 : InF m s.2) : ∀ l : List Tr, (∀ t ∈ l, TOk m L H t) → InF m (runT s l).1 ∧ InF m (runT s l).2 := by
  intro l
  induction l generalizing s with
  | nil => intro _; exact ⟨h1, h2⟩
  | cons t l ih =>
    intro h
    have ht := stT_in (h t (by simp)) h1 h2
    exact ih ht.1 ht.2 (fun x hx => h x (by simp [hx]))

end Go.Proofs.YteibbknpcgcjjabGreat
