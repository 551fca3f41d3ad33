/-
  A map and its hierarchy that are drawn: told by existence alone.
-/
import Derived.Test.YteibbknpcgcjjabPack4
import Derived.Test.YteibbknpcgcjjabDrawEP
import Derived.Test.YteibbknpcgcjjabPack5
set_option linter.unusedVariables false
set_option linter.unusedSimpArgs false
namespace Go.Proofs.Yteibbknpcgcjjab
open Go.RowKit Go.Maps
attribute [local go_sem ↓] Go.wp_at_zero Go.wp_at_succ

/-- Each number fits its kind. -/
def LWf (l : List (Int × Int)) : Prop := ∀ x ∈ l, (Lit.int .i64 x.1).wf = true ∧ (Lit.int .i64 x.2).wf = true
theorem lit_wf {x : Int} (h : -1000 ≤ x) (h2 : x ≤ 1000) : (Lit.int .i64 x).wf = true := by
  simp [Lit.wf, IntKind.min, IntKind.max, IntKind.signed, IntKind.bits]
  omega
theorem allS_wf {B : Nat → Nat → Bool} {P : Nat → Int} {p R : Nat} (hp : p ≤ 24) (hR : R ≤ 24) : LWf (allS B P p R) := fun x hx => by
  obtain ⟨r, h, h1, h2, _, _, rfl⟩ := (mem_allS x R).1 hx
  exact ⟨lit_wf (by simp only; omega) (by simp only; omega), lit_wf (by simp only; omega) (by simp only; omega)⟩
/-- Edges behind a slice of the call's own, or a slice that is nil; each number fits. -/
def EOwnE (w : World) (base : Nat) (eo : Option Addr) (ec : Nat) (l : List (Int × Int)) : Prop := w.ownsRow base 38 2 (.slice eo l.length ec) l.length (ecells l) ∧ LWf l
theorem EOwnE.nil (w : World) (base : Nat) : EOwnE w base none 0 [] := ⟨⟨by simp [ecells], .inl ⟨rfl, rfl⟩⟩, fun x hx => by cases hx⟩
theorem EOwnE.at {w : World} {base ec x : Nat} {eo : Option Addr} {l : List (Int × Int)} (h : EOwnE w base eo ec l) (e : (Value.slice eo l.length ec).ownBlock = some x) : base ≤ x ∧ x < w.heap.size := World.ownsRow.lt h.1 x e
theorem EOwnE.of_block {w w' : World} {base ec : Nat} {eo : Option Addr} {l : List (Int × Int)} (h : EOwnE w base eo ec l) (e : ∀ x, (Value.slice eo l.length ec).ownBlock = some x → w'.heap[x]? = w.heap[x]?) : EOwnE w' base eo ec l := by
  refine ⟨⟨h.1.1, ?_⟩, h.2⟩
  rcases h.1.2 with hn | ⟨g', cap', cur, hv, hb', hgg, rest⟩
  · exact .inl hn
  · have e2 := e g' (by rw [hv]; rfl)
    exact .inr ⟨g', cap', cur, hv, hb', e2.trans hgg, rest⟩
theorem EOwnE.next {w w' : World} {base ec : Nat} {eo : Option Addr} {l : List (Int × Int)} (h : EOwnE w base eo ec l) (hb : Below w.heap.size w w') : EOwnE w' base eo ec l := h.of_block (fun x e => hb.block x (h.at e).2)
theorem EOwnE.grown {w w' : World} {base ec : Nat} {eo : Option Addr} {l : List (Int × Int)} {row : Option Nat} (h : EOwnE w base eo ec l) (hg : w.grownBy w' row) (hne : ∀ x, (Value.slice eo l.length ec).ownBlock = some x → row ≠ some x) : EOwnE w' base eo ec l := h.of_block (fun x e => hg.block x (h.at e).2 (fun q => hne x e q.symm))
theorem EOwnE.from {w : World} {base base' ec : Nat} {eo : Option Addr} {l : List (Int × Int)} (h : EOwnE w base eo ec l) (hb : base' ≤ base) : EOwnE w base' eo ec l := by
  refine ⟨⟨h.1.1, ?_⟩, h.2⟩
  rcases h.1.2 with hn | ⟨g', cap', cur, hv, hb', rest⟩
  · exact .inl hn
  · exact .inr ⟨g', cap', cur, hv, Nat.le_trans hb hb', rest⟩
theorem EOwnE.some {w : World} {base ec : Nat} {eo : Option Addr} {l : List (Int × Int)} (h : EOwnE w base eo ec l) (hn : 0 < l.length) : ∃ g, eo = some ⟨g, 0, none⟩ ∧ EOwn w base g ec l := by
  obtain ⟨⟨hl, h0 | ⟨g', cap', cur, hv, rest⟩⟩, _⟩ := h
  · omega
  · simp at hv
    obtain ⟨rfl, rfl⟩ := hv
    exact ⟨g', rfl, hl, .inr ⟨g', ec, cur, rfl, rest⟩⟩
theorem EOwnE.row {w : World} {base ec : Nat} {eo : Option Addr} {l : List (Int × Int)} (h : EOwnE w base eo ec l) : ERow w eo l.length (Lf l) (Hf l) := fun k hk => by
  obtain ⟨g, rfl, h'⟩ := h.some (by omega)
  exact h'.has.row k hk
theorem EOwnE.room {w : World} {base ec : Nat} {eo : Option Addr} {l : List (Int × Int)} (h : EOwnE w base eo ec l) : l.length ≤ ec := by
  rcases Nat.eq_zero_or_pos l.length with h0 | h0
  · omega
  · obtain ⟨g, _, h2⟩ := h.some h0
    exact h2.room
theorem LWf.at {l : List (Int × Int)} (h : LWf l) : ∀ k, k < l.length → (Lit.int .i64 (Lf l k)).wf = true ∧ (Lit.int .i64 (Hf l k)).wf = true := fun k hk => by
  have := h (l.getD k (0, 0)) (by rw [List.getD_eq_getElem?_getD, List.getElem?_eq_getElem hk]; simp)
  exact this
theorem wpList_append_edgeE {w : World} {ops : Array Oper} {rest : List Oper} {o : Oper} {a : Act} {Q : Exit → Act → World → Prop} (hgd : o.guard = none) (s x : Operand)
    (ho : o.op = .call { callee := .builtin .append, args := #[s, x], argTypes := #[24, 24] }) (base ec : Nat) (eo : Option Addr) (l : List (Int × Int)) (hs : a.eval s = .slice eo l.length ec)
    (hown : EOwnE w base eo ec l) (B c : Nat) (v u : Int) (hx : a.eval x = .slice (some ⟨B, 0, none⟩) 1 c) (h0 : w.cell? ⟨B, 0, none⟩ = some (.int .i64 v)) (h1 : w.cell? ⟨B, 1, none⟩ = some (.int .i64 u)) (hn : l.length ≤ 1000000) (hbase : base ≤ w.heap.size)
    (h : ∀ g' cap' w', EOwn w' base g' cap' (l ++ [(v, u)]) → w.grownBy w' (Value.slice eo l.length ec).ownBlock → ((Value.slice eo l.length ec).ownBlock = some g' ∨ g' = w.heap.size) → wpList Try.prog ops Q rest (a.put o.dst (.slice (some ⟨g', 0, none⟩) (l.length + 1) cap')) w') : wpList Try.prog ops Q (o :: rest) a w := by
  obtain ⟨i, hi, hz0, hz1, hz2⟩ := info_parts Try.infoEdge
  refine wpList_append_lies w hgd s x 24 ho base 38 i _ 2 16 Try.underlying24 hi hz0 hz1 hz2 rfl (by omega) _ l.length (ecells l) hs hown.1 ⟨B, 0, none⟩ 1 c [.int .i64 v, .int .i64 u] hx rfl (news_edge h0 h1) ?_ (by omega) (by unfold maxLen; omega) (by omega) hbase w.heap.size rfl ?_
  · intro u hu
    simp at hu
    rcases hu with rfl | rfl <;> rfl
  · intro g' cap' w' hown' hgrow hat hlt
    refine h g' cap' w' ?_ hgrow hat
    rw [ecells_snoc] at hown'
    unfold EOwn
    rw [List.length_append]
    exact hown'

theorem specNewHier_ex (p : Int) (ao : Option Addr) (n cap : Nat) (F T G : Nat → Int) (hn : n ≤ 1048576) (hp9 : p ≤ 9) (w : World) (hr : Row w ao n F T G) :
    Calls Try.prog 101 #[.agg #[.int .i64 p, .slice ao n cap]] w fun e w' => ∃ po m pc P eo ec l, e = .returned (.agg #[.slice po m pc, .slice eo (List.length l) ec]) ∧ m ≤ 24 ∧ l.length ≤ 216 ∧ (∀ a, po = some a → 0 < m → w.heap.size ≤ a.block ∧ a.block < w'.heap.size) ∧ IRow w' po m P ∧ EOwnE w' w.heap.size eo ec l ∧ (∀ a x, po = some a → 0 < m → (Value.slice eo (List.length l) ec).ownBlock = some x → a.block ≠ x) ∧ Below w.heap.size w w' := by
  rcases Bool.eq_false_or_eq_true (graphB p n F T G) with h | h
  rotate_left
  · go_enter Try.func101, Try.ntmps101
    go_wp2_with (go_at_call 40; refine (specGraphOk_any p ao n cap F T G hn _ ((hr.alloc _).alloc _)).mono ?_; rintro e w1 ⟨rfl, hb1⟩; obtain ⟨⟨q0, q1⟩, ⟨q2, q3⟩, ⟨q4, q5⟩, q6⟩ := box22 (hb1.mono (by simp)))
    exact bodyPost_ret (v := .agg #[.slice none 0 0, .slice none 0 0]) (by simp [results, Try.results101, go_sem, q2, q3, q4, q5]) rfl ⟨none, 0, 0, F, none, 0, [], rfl, by omega, by simp, fun a e => (by cases e), fun k hk => (by omega), EOwnE.nil _ _, fun a x e => (by cases e), ret_below (unbox2 hb1 (by simp; omega)) (by simp) _ _⟩
  have hpp : 1 ≤ p ∧ p ≤ 24 := by simpa [inB] using graphB_p h
  obtain ⟨pn, rfl⟩ : ∃ pn : Nat, p = (pn : Int) := ⟨p.toNat, by omega⟩
  have hL : lenO pn n F T G = pn := by simp [lenO, h]
  have hok := order_ok h
  rw [hL] at hok
  have hwf : Hid (LWf (allS (nbA F T n) (listO pn n F T) pn pn)) := allS_wf (by omega) (by omega)
  have hll : (allS (nbA F T n) (listO pn n F T) pn pn).length ≤ 216 := by
    have := allS_len (B := nbA F T n) (P := listO pn n F T) (show pn ≤ 24 by omega) pn
    omega
  obtain ⟨⟨hp1, hp2⟩, hn1, hF, hT, hFT⟩ := ok_arcs h
  have he := order_each h
  have hA := fun ao' cap' W hr' => l3Order_any pn ao' n cap' F T G hp1 hp2 hn1 hF hT hFT W hr'
  have hB := fun ao' cap' po' pcap' W hr' hp' => l4Fill_any pn ao' n cap' F T G po' pcap' (listO pn n F T) hp1 hp2 hn1 hF hT hFT he W hr' hp'
  have hD : (run3 pn (nbA F T n) pn).2.2 = listO pn n F T := by simp [listO]
  rw [hD] at hA
  generalize allS (nbA F T n) (listO pn n F T) pn pn = l at hB hll hwf ⊢
  generalize listO pn n F T = D at hA hB ⊢
  have HO : Hid (∀ ao' cap' W, Row W ao' n F T G → Calls Try.prog 98 #[.agg #[.int .i64 (pn : Int), .slice ao' n cap']] W fun e w' => ∃ g c, e = .returned (.slice (some ⟨g, 0, none⟩) pn c) ∧ W.heap.size ≤ g ∧ IHas w' g pn D ∧ Below W.heap.size W w' ∧ pn ≤ c) := hA
  have HF : Hid (∀ ao' cap' po' pcap' W, Row W ao' n F T G → IRow W po' pn D → Calls Try.prog 39 #[.agg #[.int .i64 (pn : Int), .slice ao' n cap'], .slice po' pn pcap'] W fun e w' => ∃ g c, e = .returned (.slice (some ⟨g, 0, none⟩) l.length c) ∧ W.heap.size ≤ g ∧ EOwn w' W.heap.size g c l ∧ Below W.heap.size W w') := hB
  clear hA hB hok hF hT hFT he hD hL
  go_enter Try.func101, Try.ntmps101
  go_wp2_with fail
  refine (specGraphOk_any pn ao n cap F T G hn _ ((hr.alloc _).alloc _)).mono ?_
  rw [h]
  rintro e w1 ⟨rfl, hb1⟩
  have hA1 := hb1.mono (B' := w.heap.size + 2) (by simp)
  obtain ⟨⟨q0, q1⟩, ⟨q2, q3⟩, ⟨q4, q5⟩, q6⟩ := box22 hA1
  clear hb1
  go_wp2_with fail
  refine (HO.out _ _ _ (((hr.alloc _).alloc _).below hA1 (by simp))).mono ?_
  rintro e w2 ⟨gD, capD, rfl, hgD, hD, hb2, _⟩
  have hA2 := below_next hA1 (by simp) hb2
  clear q0 q1 q2 q3 q4 q5 q6
  obtain ⟨⟨q0, q1⟩, ⟨q2, q3⟩, ⟨q4, q5⟩, q6⟩ := box22 hA2
  go_wp2_with fail
  refine (HF.out _ _ _ _ _ (((hr.alloc _).alloc _).below hA2 (by simp)) hD.row).mono ?_
  rintro e w3 ⟨gE, capE, rfl, hgE, hE, hb3⟩
  have hA3 := below_next hA2 (by simp) hb3
  clear q0 q1 q2 q3 q4 q5 q6
  have s1 := hA1.size
  have s2 := hA2.size
  simp only [World.size_alloc] at s1 s2
  obtain ⟨⟨q0, q1⟩, ⟨q2, q3⟩, ⟨q4, q5⟩, q6⟩ := box22 hA3
  go_wp2
  refine bodyPost_ret (v := .agg #[.slice (some ⟨gD, 0, none⟩) pn capD, .slice (some ⟨gE, 0, none⟩) l.length capE]) (by simp [results, Try.results101, go_sem, q2, q3, q4, q5]) rfl ⟨_, _, _, D, some ⟨gE, 0, none⟩, capE, l, rfl, by omega, hll, fun a e _ => by
    cases e
    have := hD.lt
    have := hb3.size
    simp [World.setCell]
    omega, ((hD.below hb3 hD.lt).of_block (ret_block _ _ (by omega))).row, ⟨EOwn.of_block (hE.from (by omega)) (ret_block _ _ (by omega)), hwf.out⟩, fun a x e _ q => by
    cases e
    cases q
    rintro rfl
    exact ihas_ehas (hD.below hb3 hD.lt) hE.has, ret_below (unbox2 hA3 (by simp)) (by simp) _ _⟩

/-- What stands while a map and its hierarchy are drawn: two boxes of results, two boxes of the call's own. -/
structure HW (w : World) (base c : Nat) (ao : Option Addr) (n cap : Nat) (gb hb : Nat) (p : Int) (go : Option Addr) (k gc : Nat) (po : Option Addr) (m pc : Nat) (P : Nat → Int) (eo : Option Addr) (ec : Nat) (l : List (Int × Int)) (W : World) : Prop where
  cur : CurAt W base c ao n cap
  gr : w.grownBy W (some c)
  rg : VHas W w.heap.size 32 2 (grV 0 (.slice none 0 0))
  rh : VHas W (w.heap.size + 1) 40 2 (me2 (.slice none 0 0) (.slice none 0 0))
  gbx : VHas W gb 32 2 (grV p (.slice go k gc))
  hbx : VHas W hb 40 2 (me2 (.slice po m pc) (.slice eo l.length ec))
  arcs : AOwnE W (w.heap.size + 2) go k gc
  ord : IRow W po m P
  ordb : ∀ a, po = some a → 0 < m → w.heap.size + 2 ≤ a.block ∧ a.block ≠ gb ∧ a.block ≠ hb
  edg : EOwnE W (w.heap.size + 2) eo ec l
  ne : w.heap.size + 2 ≤ gb ∧ w.heap.size + 2 ≤ hb ∧ gb ≠ hb
  sep : ∀ a x, po = some a → 0 < m → (Value.slice eo l.length ec).ownBlock = some x → a.block ≠ x
section
variable {w W W' : World} {base c : Nat} {ao : Option Addr} {n cap gb hb : Nat} {p : Int} {go : Option Addr} {k gc : Nat} {po : Option Addr} {m pc : Nat} {P : Nat → Int} {eo : Option Addr} {ec : Nat} {l : List (Int × Int)}
theorem IRow.otherE {w w' : World} {ao : Option Addr} {n : Nat} {f : Nat → Int} {x : Nat} (h : IRow w ao n f) (hg : w.grownBy w' (some x)) (hB : ∀ a, ao = some a → 0 < n → a.block ≠ x) : IRow w' ao n f := h.other hg (fun a e h0 q => hB a e h0 (by simpa using q))
theorem HW.next (h : HW w base c ao n cap gb hb p go k gc po m pc P eo ec l W) (hb' : Below W.heap.size W W') : HW w base c ao n cap gb hb p go k gc po m pc P eo ec l W' :=
  ⟨h.cur.next hb', h.gr.trans ⟨hb'.os, hb'.tape, hb'.output, hb'.size, fun k hk _ => hb'.block k hk⟩, h.rg.next hb', h.rh.next hb', h.gbx.next hb', h.hbx.next hb', h.arcs.next hb', h.ord.below hb' (Nat.le_refl _), h.ordb, h.edg.next hb', h.ne, h.sep⟩
theorem HW.step (h : HW w base c ao n cap gb hb p go k gc po m pc P eo ec l W) (hc : c < w.heap.size) (hC : CurAt W' base c ao n cap) (hg : W.grownBy W' (some c)) : HW w base c ao n cap gb hb p go k gc po m pc P eo ec l W' := by
  have hne := h.ne
  exact ⟨hC, h.gr.trans hg, h.rg.grown hg (by simp; omega), h.rh.grown hg (by simp; omega), h.gbx.grown hg (by simp; omega), h.hbx.grown hg (by simp; omega), h.arcs.grown hg (by omega), h.ord.otherE hg (fun a e h0 => by have := h.ordb a e h0; omega), h.ordb, h.edg.grown hg (fun x e q => by have := (h.edg.at e).1; cases q; omega), h.ne, h.sep⟩
theorem vhas_arc {W : World} {b x : Nat} {f : Nat → Value} {go : Option Addr} {k gc B : Nat} (h : VHas W b 40 2 f) (ha : AOwnE W B go k gc) (e : (Value.slice go k gc).ownBlock = some x) : x ≠ b := by
  rintro rfl
  obtain ⟨cur, h1, _⟩ := h
  obtain ⟨g, _, _, h0 | ⟨g', cap', cur', hv, hb, hh, rest⟩⟩ := ha
  · rw [h0.1] at e; cases e
  · rw [hv] at e
    cases e
    rw [h1] at hh
    simp at hh
theorem vhas_edge {W : World} {b x : Nat} {f : Nat → Value} {eo : Option Addr} {ec B : Nat} {l : List (Int × Int)} {t : TypeId} (ht : t ≠ 38) (h : VHas W b t 2 f) (ha : EOwnE W B eo ec l) (e : (Value.slice eo l.length ec).ownBlock = some x) : x ≠ b := by
  rintro rfl
  obtain ⟨cur, h1, _⟩ := h
  obtain ⟨⟨_, h0 | ⟨g', cap', cur', hv, hb, hh, rest⟩⟩, _⟩ := ha
  · rw [h0.1] at e; cases e
  · rw [hv] at e
    cases e
    rw [h1] at hh
    simp at hh
    exact ht hh.2
end

end Go.Proofs.Yteibbknpcgcjjab
