/-
  Helpers, merged: DrawHi, DrawH5, DrawH6, BAn, EdOkA.
-/
import Derived.Test.YtokaechbmnbbiabGreatPack4
import Derived.Test.YtokaechbmnbbiabGreatPack5
import Derived.Test.YtokaechbmnbbiabGreatRows
import Derived.Test.YtokaechbmnbbiabGreatPack1
import Derived.Test.YtokaechbmnbbiabGreatPack2
/-
  A map and its hierarchy that are drawn: told by existence alone.
-/
set_option linter.unusedVariables false
set_option linter.unusedSimpArgs false
namespace Go.Proofs.YtokaechbmnbbiabGreat
open Go.RowKit Go.Maps
attribute [local go_sem ↓] Go.wp_at_zero Go.wp_at_succ

def LWf (l : List (Int × Int)) : Prop := ∀ x ∈ l, (Lit.int .i64 x.1).wf = true ∧ (Lit.int .i64 x.2).wf = true
theorem lit_wf {x : Int} (h : -1000 ≤ x) (h2 : x ≤ 1000) : (Lit.int .i64 x).wf = true := by
  simp [Lit.wf, IntKind.min, IntKind.max, IntKind.signed, IntKind.bits]
  omega
theorem allS_wf {B : Nat → Nat → Bool} {P : Nat → Int} {p R : Nat} (hp : p ≤ 24) (hR : R ≤ 24) : LWf (allS B P p R) := fun x hx => by
  obtain ⟨r, h, h1, h2, _, _, rfl⟩ := (mem_allS x R).1 hx
  exact ⟨lit_wf (by simp only; omega) (by simp only; omega), lit_wf (by simp only; omega) (by simp only; omega)⟩
def EOwnE (w : World) (base : Nat) (eo : Option Addr) (ec : Nat) (l : List (Int × Int)) : Prop := w.ownsRow base 62 2 (.slice eo l.length ec) l.length (ecells l) ∧ LWf l
theorem EOwnE.nil (w : World) (base : Nat) : EOwnE w base none 0 [] := ⟨⟨by simp [ecells], .inl ⟨rfl, rfl⟩⟩, fun x hx => by cases hx⟩
theorem EOwnE.at {w : World} {base ec x : Nat} {eo : Option Addr} {l : List (Int × Int)} (h : EOwnE w base eo ec l) (e : (Value.slice eo l.length ec).ownBlock = some x) : base ≤ x ∧ x < w.heap.size := World.ownsRow.lt h.1 x e
theorem EOwnE.of_block {w w' : World} {base ec : Nat} {eo : Option Addr} {l : List (Int × Int)} (h : EOwnE w base eo ec l) (e : ∀ x, (Value.slice eo l.length ec).ownBlock = some x → w'.heap[x]? = w.heap[x]?) : EOwnE w' base eo ec l := by
  refine ⟨⟨h.1.1, ?_⟩, h.2⟩
  rcases h.1.2 with hn | ⟨g', cap', cur, hv, hb', hgg, rest⟩
  · exact .inl hn
  · have e2 := e g' (by rw [hv]; rfl)
    exact .inr ⟨g', cap', cur, hv, hb', e2.trans hgg, rest⟩
theorem EOwnE.next {w w' : World} {base ec : Nat} {eo : Option Addr} {l : List (Int × Int)} (h : EOwnE w base eo ec l) (hb : Below w.heap.size w w') : EOwnE w' base eo ec l := h.of_block (fun x e => hb.block x (h.at e).2)
theorem EOwnE.grown {w w' : World} {base ec : Nat} {eo : Option Addr} {l : List (Int × Int)} {row : Option Nat} (h : EOwnE w base eo ec l) (hg : w.grownBy w' row) (hne : ∀ x, (Value.slice eo l.length ec).ownBlock = some x → row ≠ some x) : EOwnE w' base eo ec l := h.of_block (fun x e => hg.block x (h.at e).2 (fun q => hne x e q.symm))
theorem EOwnE.from {w : World} {base base' ec : Nat} {eo : Option Addr} {l : List (Int × Int)} (h : EOwnE w base eo ec l) (hb : base' ≤ base) : EOwnE w base' eo ec l := by
  refine ⟨⟨h.1.1, ?_⟩, h.2⟩
  rcases h.1.2 with hn | ⟨g', cap', cur, hv, hb', rest⟩
  · exact .inl hn
  · exact .inr ⟨g', cap', cur, hv, Nat.le_trans hb hb', rest⟩
theorem EOwnE.some {w : World} {base ec : Nat} {eo : Option Addr} {l : List (Int × Int)} (h : EOwnE w base eo ec l) (hn : 0 < l.length) : ∃ g, eo = some ⟨g, 0, none⟩ ∧ EOwn w base g ec l := by
  obtain ⟨⟨hl, h0 | ⟨g', cap', cur, hv, rest⟩⟩, _⟩ := h
  · omega
  · simp at hv
    obtain ⟨rfl, rfl⟩ := hv
    exact ⟨g', rfl, hl, .inr ⟨g', ec, cur, rfl, rest⟩⟩
theorem EOwnE.row {w : World} {base ec : Nat} {eo : Option Addr} {l : List (Int × Int)} (h : EOwnE w base eo ec l) : ERow w eo l.length (Lf l) (Hf l) := fun k hk => by
  obtain ⟨g, rfl, h'⟩ := h.some (by omega)
  exact h'.has.row k hk
theorem EOwnE.room {w : World} {base ec : Nat} {eo : Option Addr} {l : List (Int × Int)} (h : EOwnE w base eo ec l) : l.length ≤ ec := by
  rcases Nat.eq_zero_or_pos l.length with h0 | h0
  · omega
  · obtain ⟨g, _, h2⟩ := h.some h0
    exact h2.room
theorem LWf.at {l : List (Int × Int)} (h : LWf l) : ∀ k, k < l.length → (Lit.int .i64 (Lf l k)).wf = true ∧ (Lit.int .i64 (Hf l k)).wf = true := fun k hk => by
  have := h (l.getD k (0, 0)) (by rw [List.getD_eq_getElem?_getD, List.getElem?_eq_getElem hk]; simp)
  exact this
theorem specNewHier_ex (p : Int) (ao : Option Addr) (n cap : Nat) (F T G : Nat → Int) (hn : n ≤ 1048576) (hp9 : p ≤ 9) (w : World) (hr : Row w ao n F T G) :
    Calls Tryz.prog 14 #[.agg #[.int .i64 p, .slice ao n cap]] w fun e w' => ∃ po m pc P eo ec l, e = .returned (.agg #[.slice po m pc, .slice eo (List.length l) ec]) ∧ m ≤ 24 ∧ l.length ≤ 216 ∧ (∀ a, po = some a → 0 < m → w.heap.size ≤ a.block ∧ a.block < w'.heap.size) ∧ IRow w' po m P ∧ EOwnE w' w.heap.size eo ec l ∧ (∀ a x, po = some a → 0 < m → (Value.slice eo (List.length l) ec).ownBlock = some x → a.block ≠ x) ∧ Below w.heap.size w w' := by
  rcases Bool.eq_false_or_eq_true (graphB p n F T G) with h | h
  rotate_left
  · go_enter Tryz.func14, Tryz.ntmps14
    go_wp2_with (go_at_call 41; refine (specGraphOk_any p ao n cap F T G hn _ ((hr.alloc _).alloc _)).mono ?_; rintro e w1 ⟨rfl, hb1⟩; obtain ⟨⟨q0, q1⟩, ⟨q2, q3⟩, ⟨q4, q5⟩, q6⟩ := box22 (hb1.mono (by simp)))
    exact bodyPost_ret (v := .agg #[.slice none 0 0, .slice none 0 0]) (by simp [results, Tryz.results14, go_sem, q2, q3, q4, q5]) rfl ⟨none, 0, 0, F, none, 0, [], rfl, by omega, by simp, fun a e => (by cases e), fun k hk => (by omega), EOwnE.nil _ _, fun a x e => (by cases e), ret_below (unbox2 hb1 (by simp; omega)) (by simp) _ _⟩
  have hpp : 1 ≤ p ∧ p ≤ 24 := by simpa [inB] using graphB_p h
  obtain ⟨pn, rfl⟩ : ∃ pn : Nat, p = (pn : Int) := ⟨p.toNat, by omega⟩
  have hL : lenO pn n F T G = pn := by simp [lenO, h]
  have hok := order_ok h
  rw [hL] at hok
  have hwf : Hid (LWf (allS (nbA F T n) (listO pn n F T) pn pn)) := allS_wf (by omega) (by omega)
  have hll : (allS (nbA F T n) (listO pn n F T) pn pn).length ≤ 216 := by
    have := allS_len (B := nbA F T n) (P := listO pn n F T) (show pn ≤ 24 by omega) pn
    omega
  obtain ⟨⟨hp1, hp2⟩, hn1, hF, hT, hFT⟩ := ok_arcs h
  have he := order_each h
  have hA := fun ao' cap' W hr' => l3Order_any pn ao' n cap' F T G hp1 hp2 hn1 hF hT hFT W hr'
  have hB := fun ao' cap' po' pcap' W hr' hp' => l4Fill_any pn ao' n cap' F T G po' pcap' (listO pn n F T) hp1 hp2 hn1 hF hT hFT he W hr' hp'
  have hD : (run3 pn (nbA F T n) pn).2.2 = listO pn n F T := by simp [listO]
  rw [hD] at hA
  generalize allS (nbA F T n) (listO pn n F T) pn pn = l at hB hll hwf ⊢
  generalize listO pn n F T = D at hA hB ⊢
  have HO : Hid (∀ ao' cap' W, Row W ao' n F T G → Calls Tryz.prog 42 #[.agg #[.int .i64 (pn : Int), .slice ao' n cap']] W fun e w' => ∃ g c, e = .returned (.slice (some ⟨g, 0, none⟩) pn c) ∧ W.heap.size ≤ g ∧ IHas w' g pn D ∧ Below W.heap.size W w' ∧ pn ≤ c) := hA
  have HF : Hid (∀ ao' cap' po' pcap' W, Row W ao' n F T G → IRow W po' pn D → Calls Tryz.prog 37 #[.agg #[.int .i64 (pn : Int), .slice ao' n cap'], .slice po' pn pcap'] W fun e w' => ∃ g c, e = .returned (.slice (some ⟨g, 0, none⟩) l.length c) ∧ W.heap.size ≤ g ∧ EOwn w' W.heap.size g c l ∧ Below W.heap.size W w') := hB
  clear hA hB hok hF hT hFT he hD hL
  go_enter Tryz.func14, Tryz.ntmps14
  go_wp2_with fail
  refine (specGraphOk_any pn ao n cap F T G hn _ ((hr.alloc _).alloc _)).mono ?_
  rw [h]
  rintro e w1 ⟨rfl, hb1⟩
  have hA1 := hb1.mono (B' := w.heap.size + 2) (by simp)
  obtain ⟨⟨q0, q1⟩, ⟨q2, q3⟩, ⟨q4, q5⟩, q6⟩ := box22 hA1
  clear hb1
  go_wp2_with fail
  refine (HO.out _ _ _ (((hr.alloc _).alloc _).below hA1 (by simp))).mono ?_
  rintro e w2 ⟨gD, capD, rfl, hgD, hD, hb2, _⟩
  have hA2 := below_next hA1 (by simp) hb2
  clear q0 q1 q2 q3 q4 q5 q6
  obtain ⟨⟨q0, q1⟩, ⟨q2, q3⟩, ⟨q4, q5⟩, q6⟩ := box22 hA2
  go_wp2_with fail
  refine (HF.out _ _ _ _ _ (((hr.alloc _).alloc _).below hA2 (by simp)) hD.row).mono ?_
  rintro e w3 ⟨gE, capE, rfl, hgE, hE, hb3⟩
  have hA3 := below_next hA2 (by simp) hb3
  clear q0 q1 q2 q3 q4 q5 q6
  have s1 := hA1.size
  have s2 := hA2.size
  simp only [World.size_alloc] at s1 s2
  obtain ⟨⟨q0, q1⟩, ⟨q2, q3⟩, ⟨q4, q5⟩, q6⟩ := box22 hA3
  go_wp2
  refine bodyPost_ret (v := .agg #[.slice (some ⟨gD, 0, none⟩) pn capD, .slice (some ⟨gE, 0, none⟩) l.length capE]) (by simp [results, Tryz.results14, go_sem, q2, q3, q4, q5]) rfl ⟨_, _, _, D, some ⟨gE, 0, none⟩, capE, l, rfl, by omega, hll, fun a e _ => by
    cases e
    have := hD.lt
    have := hb3.size
    simp [World.setCell]
    omega, ((hD.below hb3 hD.lt).of_block (ret_block _ _ (by omega))).row, ⟨EOwn.of_block (hE.from (by omega)) (ret_block _ _ (by omega)), hwf.out⟩, fun a x e _ q => by
    cases e
    cases q
    rintro rfl
    exact ihas_ehas (hD.below hb3 hD.lt) hE.has, ret_below (unbox2 hA3 (by simp)) (by simp) _ _⟩

structure HW (w : World) (base c : Nat) (ao : Option Addr) (n cap : Nat) (gb hb : Nat) (p : Int) (go : Option Addr) (k gc : Nat) (po : Option Addr) (m pc : Nat) (P : Nat → Int) (eo : Option Addr) (ec : Nat) (l : List (Int × Int)) (W : World) : Prop where
  cur : CurAt W base c ao n cap
  gr : w.grownBy W (some c)
  rg : VHas W w.heap.size 26 2 (grV 0 (.slice none 0 0))
  rh : VHas W (w.heap.size + 1) 30 2 (me2 (.slice none 0 0) (.slice none 0 0))
  gbx : VHas W gb 26 2 (grV p (.slice go k gc))
  hbx : VHas W hb 30 2 (me2 (.slice po m pc) (.slice eo l.length ec))
  arcs : AOwnE W (w.heap.size + 2) go k gc
  ord : IRow W po m P
  ordb : ∀ a, po = some a → 0 < m → w.heap.size + 2 ≤ a.block ∧ a.block ≠ gb ∧ a.block ≠ hb
  edg : EOwnE W (w.heap.size + 2) eo ec l
  ne : w.heap.size + 2 ≤ gb ∧ w.heap.size + 2 ≤ hb ∧ gb ≠ hb
  sep : ∀ a x, po = some a → 0 < m → (Value.slice eo l.length ec).ownBlock = some x → a.block ≠ x
section
variable {w W W' : World} {base c : Nat} {ao : Option Addr} {n cap gb hb : Nat} {p : Int} {go : Option Addr} {k gc : Nat} {po : Option Addr} {m pc : Nat} {P : Nat → Int} {eo : Option Addr} {ec : Nat} {l : List (Int × Int)}
theorem IRow.otherE {w w' : World} {ao : Option Addr} {n : Nat} {f : Nat → Int} {x : Nat} (h : IRow w ao n f) (hg : w.grownBy w' (some x)) (hB : ∀ a, ao = some a → 0 < n → a.block ≠ x) : IRow w' ao n f := h.other hg (fun a e h0 q => hB a e h0 (by simpa using q))
theorem HW.next (h : HW w base c ao n cap gb hb p go k gc po m pc P eo ec l W) (hb' : Below W.heap.size W W') : HW w base c ao n cap gb hb p go k gc po m pc P eo ec l W' :=
  ⟨h.cur.next hb', h.gr.trans ⟨hb'.os, hb'.tape, hb'.output, hb'.size, fun k hk _ => hb'.block k hk⟩, h.rg.next hb', h.rh.next hb', h.gbx.next hb', h.hbx.next hb', h.arcs.next hb', h.ord.below hb' (Nat.le_refl _), h.ordb, h.edg.next hb', h.ne, h.sep⟩
theorem HW.step (h : HW w base c ao n cap gb hb p go k gc po m pc P eo ec l W) (hc : c < w.heap.size) (hC : CurAt W' base c ao n cap) (hg : W.grownBy W' (some c)) : HW w base c ao n cap gb hb p go k gc po m pc P eo ec l W' := by
  have hne := h.ne
  exact ⟨hC, h.gr.trans hg, h.rg.grown hg (by simp; omega), h.rh.grown hg (by simp; omega), h.gbx.grown hg (by simp; omega), h.hbx.grown hg (by simp; omega), h.arcs.grown hg (by omega), h.ord.otherE hg (fun a e h0 => by have := h.ordb a e h0; omega), h.ordb, h.edg.grown hg (fun x e q => by have := (h.edg.at e).1; cases q; omega), h.ne, h.sep⟩
theorem vhas_arc {W : World} {b x : Nat} {f : Nat → Value} {go : Option Addr} {k gc B : Nat} (h : VHas W b 30 2 f) (ha : AOwnE W B go k gc) (e : (Value.slice go k gc).ownBlock = some x) : x ≠ b := by
  rintro rfl
  obtain ⟨cur, h1, _⟩ := h
  obtain ⟨g, _, _, h0 | ⟨g', cap', cur', hv, hb, hh, rest⟩⟩ := ha
  · rw [h0.1] at e; cases e
  · rw [hv] at e
    cases e
    rw [h1] at hh
    simp at hh
theorem vhas_edge {W : World} {b x : Nat} {f : Nat → Value} {eo : Option Addr} {ec B : Nat} {l : List (Int × Int)} {t : TypeId} (ht : t ≠ 62) (h : VHas W b t 2 f) (ha : EOwnE W B eo ec l) (e : (Value.slice eo l.length ec).ownBlock = some x) : x ≠ b := by
  rintro rfl
  obtain ⟨cur, h1, _⟩ := h
  obtain ⟨⟨_, h0 | ⟨g', cap', cur', hv, hb, hh, rest⟩⟩, _⟩ := ha
  · rw [h0.1] at e; cases e
  · rw [hv] at e
    cases e
    rw [h1] at hh
    simp at hh
    exact ht hh.2
end

end Go.Proofs.YtokaechbmnbbiabGreat

/-
  The document's draw of a map and its hierarchy.
-/
set_option linter.unusedVariables false
set_option linter.unusedSimpArgs false
namespace Go.Proofs.YtokaechbmnbbiabGreat
open Go.RowKit Go.Maps Go.Deep Go.Joins
attribute [local go_sem ↓] Go.wp_at_zero Go.wp_at_succ

structure HD (w : World) (base c : Nat) (ao : Option Addr) (n cap : Nat) (go : Option Addr) (k gc : Nat) (po : Option Addr) (m : Nat) (P : Nat → Int) (eo : Option Addr) (ec : Nat) (l : List (Int × Int)) (W : World) : Prop where
  cur : CurAt W base c ao n cap
  gr : w.grownBy W (some c)
  arcs : AOwnE W w.heap.size go k gc
  ord : IRow W po m P
  ordb : ∀ a, po = some a → 0 < m → w.heap.size ≤ a.block
  edg : EOwnE W w.heap.size eo ec l
  sep : ∀ a x, po = some a → 0 < m → (Value.slice eo l.length ec).ownBlock = some x → a.block ≠ x
theorem hi2_new (w : World) (a b : Value) : VHas (w.alloc (.cells #[a, b] 30)) w.heap.size 30 2 (me2 a b) :=
  ⟨_, Go.Deep.blk_alloc_new _ _, by simp, fun j hj => by
    have : j = 0 ∨ j = 1 := by omega
    rcases this with rfl | rfl <;> rfl⟩
theorem AOwnE.cellsB {w : World} {base n cap : Nat} {ao : Option Addr} (h : AOwnE w base ao n cap) : ∀ a, ao = some a → 0 < n → base ≤ a.block := fun a e h0 => by
  obtain ⟨F, T, G, _, h2⟩ := h.row
  obtain ⟨g, e2, hg⟩ := h2 h0
  rw [e2] at e
  cases e
  exact hg
section
variable {w W W' : World} {base c : Nat} {ao : Option Addr} {n cap gb hb : Nat} {p : Int} {go : Option Addr} {k gc : Nat} {po : Option Addr} {m pc : Nat} {P : Nat → Int} {eo : Option Addr} {ec : Nat} {l : List (Int × Int)}
theorem AOwnE.of_block {w w' : World} {base k gc : Nat} {go : Option Addr} (h : AOwnE w base go k gc) (e : ∀ x, (Value.slice go k gc).ownBlock = some x → w'.heap[x]? = w.heap[x]?) : AOwnE w' base go k gc := by
  obtain ⟨f, hw9, h1, h2⟩ := h
  refine ⟨f, hw9, h1, ?_⟩
  rcases h2 with hn | ⟨g', cap', cur, hv, hb', hgg, rest⟩
  · exact .inl hn
  · have e2 := e g' (by rw [hv]; rfl)
    exact .inr ⟨g', cap', cur, hv, hb', e2.trans hgg, rest⟩
theorem AOwnE.grownN {w w' : World} {base k gc x : Nat} {go : Option Addr} (h : AOwnE w base go k gc) (hg : w.grownBy w' (some x)) (hne : ∀ y, (Value.slice go k gc).ownBlock = some y → y ≠ x) : AOwnE w' base go k gc := h.of_block (fun y e => hg.block y (h.at e).2 (fun q => hne y e (by simpa using q)))
theorem HW.setH (h : HW w base c ao n cap gb hb p go k gc po m pc P eo ec l W) (hc : c < w.heap.size) {po' : Option Addr} {m' pc' : Nat} {P' : Nat → Int} {eo' : Option Addr} {ec' : Nat} {l' : List (Int × Int)} (hP : IRow W po' m' P') (hpb : ∀ a, po' = some a → 0 < m' → w.heap.size + 2 ≤ a.block ∧ a.block ≠ gb ∧ a.block ≠ hb) (hE : EOwnE W (w.heap.size + 2) eo' ec' l') (hsep : ∀ a x, po' = some a → 0 < m' → (Value.slice eo' l'.length ec').ownBlock = some x → a.block ≠ x) :
    HW w base c ao n cap gb hb p go k gc po' m' pc' P' eo' ec' l' ((W.setCell ⟨hb, 0, none⟩ (.slice po' m' pc')).setCell ⟨hb, 1, none⟩ (.slice eo' l'.length ec')) := by
  have h1 := gr_setCell W hb 0 (.slice po' m' pc')
  have h2 := gr_setCell (W.setCell ⟨hb, 0, none⟩ (.slice po' m' pc')) hb 1 (.slice eo' l'.length ec')
  have hbx := ((h.hbx.set 0 (.slice po' m' pc')).set 1 (.slice eo' l'.length ec')).congr (g := me2 (.slice po' m' pc') (.slice eo' l'.length ec')) (fun i hi => by
    have : i = 0 ∨ i = 1 := by omega
    rcases this with rfl | rfl <;> rfl)
  have hne := h.ne
  have hge := h.cur.ge
  have na : ∀ y, (Value.slice go k gc).ownBlock = some y → y ≠ hb := fun y e => vhas_arc h.hbx h.arcs e
  have nE : ∀ y, (Value.slice eo' l'.length ec').ownBlock = some y → some hb ≠ some y := fun y e q => vhas_edge (by decide) h.hbx hE e (by simpa using q.symm)
  generalize ((W.setCell ⟨hb, 0, none⟩ (.slice po' m' pc')).setCell ⟨hb, 1, none⟩ (.slice eo' l'.length ec')) = W2 at h2 hbx ⊢
  generalize (W.setCell ⟨hb, 0, none⟩ (.slice po' m' pc')) = W1 at h1 h2
  exact ⟨(h.cur.grown h1 (by omega) (by omega)).grown h2 (by omega) (by omega), gr_far (gr_far h.gr h1 (fun g e => by cases e; exact Nat.le_refl _) (by omega)) h2 (fun g e => by cases e; exact Nat.le_refl _) (by omega), (h.rg.grown h1 (by simp; omega)).grown h2 (by simp; omega), (h.rh.grown h1 (by simp; omega)).grown h2 (by simp; omega), (h.gbx.grown h1 (by simp; omega)).grown h2 (by simp; omega), hbx, (h.arcs.grownN h1 na).grownN h2 na, (hP.otherE h1 (fun a e h0 => (hpb a e h0).2.2)).otherE h2 (fun a e h0 => (hpb a e h0).2.2), hpb, (hE.grown h1 nE).grown h2 nE, h.ne, hsep⟩
theorem HD.next (h : HD w base c ao n cap go k gc po m P eo ec l W) (hb' : Below W.heap.size W W') : HD w base c ao n cap go k gc po m P eo ec l W' :=
  ⟨h.cur.next hb', h.gr.trans ⟨hb'.os, hb'.tape, hb'.output, hb'.size, fun k hk _ => hb'.block k hk⟩, h.arcs.next hb', h.ord.below hb' (Nat.le_refl _), h.ordb, h.edg.next hb', h.sep⟩
theorem HW.out (h : HW w base c ao n cap gb hb p go k gc po m pc P eo ec l W) (hc : c < w.heap.size) (v0 v1 v2 v3 : Value) :
    HD w base c ao n cap go k gc po m P eo ec l ((((W.setCell ⟨w.heap.size, 0, none⟩ v0).setCell ⟨w.heap.size, 1, none⟩ v1).setCell ⟨w.heap.size + 1, 0, none⟩ v2).setCell ⟨w.heap.size + 1, 1, none⟩ v3) := by
  have h1 := gr_setCell W w.heap.size 0 v0
  have h2 := gr_setCell (W.setCell ⟨w.heap.size, 0, none⟩ v0) w.heap.size 1 v1
  have h3 := gr_setCell ((W.setCell ⟨w.heap.size, 0, none⟩ v0).setCell ⟨w.heap.size, 1, none⟩ v1) (w.heap.size + 1) 0 v2
  have h4 := gr_setCell (((W.setCell ⟨w.heap.size, 0, none⟩ v0).setCell ⟨w.heap.size, 1, none⟩ v1).setCell ⟨w.heap.size + 1, 0, none⟩ v2) (w.heap.size + 1) 1 v3
  generalize (((W.setCell ⟨w.heap.size, 0, none⟩ v0).setCell ⟨w.heap.size, 1, none⟩ v1).setCell ⟨w.heap.size + 1, 0, none⟩ v2) = W3 at h3 h4 ⊢
  generalize ((W.setCell ⟨w.heap.size, 0, none⟩ v0).setCell ⟨w.heap.size, 1, none⟩ v1) = W2 at h2 h3
  generalize (W.setCell ⟨w.heap.size, 0, none⟩ v0) = W1 at h1 h2
  have hge := h.cur.ge
  refine ⟨(((h.cur.grown h1 (by omega) (by omega)).grown h2 (by omega) (by omega)).grown h3 (by omega) (by omega)).grown h4 (by omega) (by omega), ?_, ((((h.arcs.grown h1 (by omega)).grown h2 (by omega)).grown h3 (by omega)).grown h4 (by omega)).from (by omega), ?_, fun a e h0 => by have := h.ordb a e h0; omega, ?_, h.sep⟩
  · exact gr_far (gr_far (gr_far (gr_far h.gr h1 (fun g e => by cases e; exact Nat.le_refl _) (Nat.le_refl _)) h2 (fun g e => by cases e; exact Nat.le_refl _) (Nat.le_refl _)) h3 (fun g e => by cases e; exact Nat.le_refl _) (by omega)) h4 (fun g e => by cases e; exact Nat.le_refl _) (by omega)
  · exact (((h.ord.otherE h1 (fun a e h0 => by have := h.ordb a e h0; omega)).otherE h2 (fun a e h0 => by have := h.ordb a e h0; omega)).otherE h3 (fun a e h0 => by have := h.ordb a e h0; omega)).otherE h4 (fun a e h0 => by have := h.ordb a e h0; omega)
  · have hx : ∀ x, (Value.slice eo l.length ec).ownBlock = some x → w.heap.size + 2 ≤ x := fun x e => (h.edg.at e).1
    exact ((((h.edg.grown h1 (fun x e q => by have := hx x e; cases q; omega)).grown h2 (fun x e q => by have := hx x e; cases q; omega)).grown h3 (fun x e q => by have := hx x e; cases q; omega)).grown h4 (fun x e q => by have := hx x e; cases q; omega)).from (by omega)
end

set_option maxRecDepth 100000 in
set_option maxHeartbeats 4000000 in
theorem l5Draw_any (base c : Nat) (ao : Option Addr) (n cap : Nat) (w : World) (hC : CurAt w base c ao n cap) :
    Calls Tryz.prog 100 #[.pointer (some ⟨c, 0, none⟩)] w fun e w' => ∃ (p : Int) (go : Option Addr) (k gc : Nat) (po : Option Addr) (m pc : Nat) (P : Nat → Int) (eo : Option Addr) (ec : Nat) (l : List (Int × Int)), e = .returned (.tuple #[.agg #[.int .i64 p, .slice go k gc], .agg #[.slice po m pc, .slice eo l.length ec]]) ∧ (k ≤ 200 ∧ m ≤ 24 ∧ l.length ≤ 216) ∧ HD w base c ao n cap go k gc po m P eo ec l w' := by
  have hcl := hC.lt
  have hge := hC.ge
  have hal1 := (Below.refl w.heap.size w).alloc (Nat.le_refl _) (.cells #[.int .i64 0, .slice none 0 0] 26)
  have hal2 := (Below.refl _ (w.alloc (.cells #[.int .i64 0, .slice none 0 0] 26))).alloc (Nat.le_refl _) (.cells #[.slice none 0 0, .slice none 0 0] 30)
  have hC0 := (hC.next hal1).next hal2
  have rg := (gr_new w 0 (.slice none 0 0)).next hal2
  have rh := hi2_new (w.alloc (.cells #[.int .i64 0, .slice none 0 0] 26)) (.slice none 0 0) (.slice none 0 0)
  have gr0 : w.grownBy ((w.alloc (.cells #[.int .i64 0, .slice none 0 0] 26)).alloc (.cells #[.slice none 0 0, .slice none 0 0] 30)) (some c) := (⟨hal1.os, hal1.tape, hal1.output, hal1.size, fun k hk _ => hal1.block k hk⟩ : w.grownBy _ (some c)).trans ⟨hal2.os, hal2.tape, hal2.output, hal2.size, fun k hk _ => hal2.block k hk⟩
  have hz0 : ((w.alloc (.cells #[.int .i64 0, .slice none 0 0] 26)).alloc (.cells #[.slice none 0 0, .slice none 0 0] 30)).heap.size = w.heap.size + 2 := by simp
  go_enter Tryz.func100, Tryz.ntmps100
  go_wp2_with fail
  generalize ((w.alloc (.cells #[.int .i64 0, .slice none 0 0] 26)).alloc (.cells #[.slice none 0 0, .slice none 0 0] 30)) = W0 at hC0 rg rh gr0 hz0 ⊢
  simp only [World.size_alloc] at rh
  clear hal1 hal2
  refine (l1Draw_any base c ao n cap _ hC0).mono ?_
  rintro e w1 ⟨p, go, k, gc, rfl, ⟨hp1, hp9⟩, hk, hO1, hC1, hg1⟩
  obtain ⟨F, T, G, hr1, _⟩ := hO1.row
  replace rg := rg.grown hg1 (by simp; omega)
  replace rh := rh.grown hg1 (by simp; omega)
  replace gr0 := gr0.trans hg1
  have hs1 := hg1.size
  rw [hz0] at hO1
  clear hg1 hC0
  have ha := (fun X o => (Below.refl _ X).alloc (Nat.le_refl _) o : ∀ (X : World) (o : Obj), Below X.heap.size X (X.alloc o)) w1 (.cells #[.int .i64 (p : Int), .slice go k gc] 26)
  have gbx := gr_new w1 (p : Int) (.slice go k gc)
  replace rg := rg.next ha
  replace rh := rh.next ha
  replace hr1 := hr1.below ha (Nat.le_refl _)
  replace hO1 := hO1.next ha
  replace hC1 := hC1.next ha
  replace gr0 := gr0.trans (⟨ha.os, ha.tape, ha.output, ha.size, fun k hk _ => ha.block k hk⟩ : w1.grownBy _ (some c))
  have hs2 : (w1.alloc (.cells #[.int .i64 (p : Int), .slice go k gc] 26)).heap.size = w1.heap.size + 1 := by simp
  have q0 : (w1.alloc (.cells #[.int .i64 (p : Int), .slice go k gc] 26)).cell? ⟨w1.heap.size, 0, none⟩ = some (.int .i64 (p : Int)) := by simp [go_sem]
  have q1 : (w1.alloc (.cells #[.int .i64 (p : Int), .slice go k gc] 26)).cell? ⟨w1.heap.size, 1, none⟩ = some (.slice go k gc) := by simp [go_sem]
  clear ha
  go_wp2_with fail
  generalize (w1.alloc (.cells #[.int .i64 (p : Int), .slice go k gc] 26)) = W2 at rg rh hr1 hO1 hC1 gr0 hs2 q0 q1 gbx ⊢
  generalize w1.heap.size = gb at gbx q0 q1 hs2 hs1 ⊢
  refine (specNewHier_ex (p : Int) go k gc F T G (by omega) (by omega) _ hr1).mono ?_
  rintro e w3 ⟨po, m, pc, P, eo, ec, l, rfl, hm, hl, hpb, hP, hE, hsp, hb3⟩
  have ha := (fun X o => (Below.refl _ X).alloc (Nat.le_refl _) o : ∀ (X : World) (o : Obj), Below X.heap.size X (X.alloc o)) w3 (.cells #[.slice po m pc, .slice eo l.length ec] 30)
  have hs3 := hb3.size
  have hW : HW w base c ao n cap gb w3.heap.size p go k gc po m pc P eo ec l (w3.alloc (.cells #[.slice po m pc, .slice eo l.length ec] 30)) :=
    ⟨(hC1.next hb3).next ha, (gr0.trans ⟨hb3.os, hb3.tape, hb3.output, hb3.size, fun k hk _ => hb3.block k hk⟩).trans ⟨ha.os, ha.tape, ha.output, ha.size, fun k hk _ => ha.block k hk⟩, (rg.next hb3).next ha, (rh.next hb3).next ha, (gbx.next hb3).next ha, hi2_new _ _ _, (hO1.next hb3).next ha, hP.below ha (Nat.le_refl _), fun a e h0 => by have := hpb a e h0; omega, (hE.from (by omega)).next ha, by omega, hsp⟩
  replace hr1 := (hr1.below hb3 (Nat.le_refl _)).below ha (Nat.le_refl _)
  have hgo := hW.arcs.cellsB
  have hs4 : (w3.alloc (.cells #[.slice po m pc, .slice eo l.length ec] 30)).heap.size = w3.heap.size + 1 := by simp
  clear ha rg rh gbx hO1 hC1 gr0 hP hE hpb hb3 q0 q1
  go_wp2_with fail
  generalize (w3.alloc (.cells #[.slice po m pc, .slice eo l.length ec] 30)) = W4 at hW hr1 hs4 ⊢
  generalize w3.heap.size = hb at hW hs4 hs3 ⊢
  refine (l1Once_any base c ao n cap 2 (by omega) (by omega) _ hW.cur).mono ?_
  rintro e w5 ⟨bx, rfl, hC5, hg5⟩
  have hr5 : Row w5 go k F T G := hr1.otherB hg5 (fun a e h0 q => by have := hgo a e h0; simp at q; omega)
  replace hW := hW.step hcl hC5 hg5
  have hs5 := hg5.size
  clear hC5 hg5 hr1
  have e0 : w5.cell? ⟨gb, 0, none⟩ = some (.int .i64 (p : Int)) := hW.gbx.cell (j := 0) (by omega)
  have e1 : w5.cell? ⟨gb, 1, none⟩ = some (.slice go k gc) := hW.gbx.cell (j := 1) (by omega)
  cases bx
  · have r0 : w5.cell? ⟨w.heap.size, 0, none⟩ = some (.int .i64 0) := hW.rg.cell (j := 0) (by omega)
    have r1 : w5.cell? ⟨w.heap.size, 1, none⟩ = some (.slice none 0 0) := hW.rg.cell (j := 1) (by omega)
    have r2 : w5.cell? ⟨w.heap.size + 1, 0, none⟩ = some (.slice none 0 0) := hW.rh.cell (j := 0) (by omega)
    have r3 : w5.cell? ⟨w.heap.size + 1, 1, none⟩ = some (.slice none 0 0) := hW.rh.cell (j := 1) (by omega)
    have f0 : w5.cell? ⟨hb, 0, none⟩ = some (.slice po m pc) := hW.hbx.cell (j := 0) (by omega)
    have f1 : w5.cell? ⟨hb, 1, none⟩ = some (.slice eo l.length ec) := hW.hbx.cell (j := 1) (by omega)
    have z0 := hW.rg.frozen 0
    have z1 := hW.rg.frozen 1
    have z2 := hW.rh.frozen 0
    have z3 := hW.rh.frozen 1
    have hne := hW.ne
    have hlr := hW.rh.lt
    go_wp2
    go_region_law (fail)
    all_goals
      go_wp2
      have hO := hW.out hcl (.int .i64 (p : Int)) (.slice go k gc) (.slice po m pc) (.slice eo l.length ec)
      have d0 : ((((w5.setCell ⟨w.heap.size, 0, none⟩ (.int .i64 (p : Int))).setCell ⟨w.heap.size, 1, none⟩ (.slice go k gc)).setCell ⟨w.heap.size + 1, 0, none⟩ (.slice po m pc)).setCell ⟨w.heap.size + 1, 1, none⟩ (.slice eo l.length ec)).cell? ⟨w.heap.size, 0, none⟩ = some (.int .i64 (p : Int)) := by simp [go_sem, r0, r1, r2, r3]
      have d1 : ((((w5.setCell ⟨w.heap.size, 0, none⟩ (.int .i64 (p : Int))).setCell ⟨w.heap.size, 1, none⟩ (.slice go k gc)).setCell ⟨w.heap.size + 1, 0, none⟩ (.slice po m pc)).setCell ⟨w.heap.size + 1, 1, none⟩ (.slice eo l.length ec)).cell? ⟨w.heap.size, 1, none⟩ = some (.slice go k gc) := by simp [go_sem, r0, r1, r2, r3]
      have d2 : ((((w5.setCell ⟨w.heap.size, 0, none⟩ (.int .i64 (p : Int))).setCell ⟨w.heap.size, 1, none⟩ (.slice go k gc)).setCell ⟨w.heap.size + 1, 0, none⟩ (.slice po m pc)).setCell ⟨w.heap.size + 1, 1, none⟩ (.slice eo l.length ec)).cell? ⟨w.heap.size + 1, 0, none⟩ = some (.slice po m pc) := by simp [go_sem, r0, r1, r2, r3]
      have d3 : ((((w5.setCell ⟨w.heap.size, 0, none⟩ (.int .i64 (p : Int))).setCell ⟨w.heap.size, 1, none⟩ (.slice go k gc)).setCell ⟨w.heap.size + 1, 0, none⟩ (.slice po m pc)).setCell ⟨w.heap.size + 1, 1, none⟩ (.slice eo l.length ec)).cell? ⟨w.heap.size + 1, 1, none⟩ = some (.slice eo l.length ec) := by simp [go_sem, r0, r1, r2, r3]
      generalize ((((w5.setCell ⟨w.heap.size, 0, none⟩ (.int .i64 (p : Int))).setCell ⟨w.heap.size, 1, none⟩ (.slice go k gc)).setCell ⟨w.heap.size + 1, 0, none⟩ (.slice po m pc)).setCell ⟨w.heap.size + 1, 1, none⟩ (.slice eo l.length ec)) = WX at hO d0 d1 d2 d3 ⊢
      clear r0 r1 r2 r3 z0 z1 z2 z3
      simp [bodyPost, results, Tryz.results100, go_sem, d0, d1, d2, d3]
      exact ⟨p, go, k, gc, po, m, pc, P, eo, ec, l, by simp, by omega, hO.next (Below.refl _ _).drew⟩
  go_wp2_with fail
  refine (l3DrawOrder_any base c ao n cap (p : Int) go k gc F T G (by omega) _ hW.cur hr5).mono ?_
  rintro e w6 ⟨po', m', pc', P', rfl, hm', hpb', hP', hC6, hg6⟩
  have hr6 : Row w6 go k F T G := hr5.otherB hg6 (fun a e h0 q => by have := hgo a e h0; simp at q; omega)
  replace hW := hW.step hcl hC6 hg6
  have hs6 := hg6.size
  clear hC6 hg6 hr5 e0 e1
  have e0 : w6.cell? ⟨gb, 0, none⟩ = some (.int .i64 (p : Int)) := hW.gbx.cell (j := 0) (by omega)
  have e1 : w6.cell? ⟨gb, 1, none⟩ = some (.slice go k gc) := hW.gbx.cell (j := 1) (by omega)
  go_wp2_with fail
  refine (specOrderOk_any (p : Int) go k gc F T G po' m' pc' P' (by omega) (by omega) _ hr6 hP').mono ?_
  rintro e w7 ⟨rfl, hb7⟩
  replace hr6 := hr6.below hb7 (Nat.le_refl _)
  replace hP' := hP'.below hb7 (Nat.le_refl _)
  replace hW := hW.next hb7
  have hs7 := hb7.size
  clear hb7 e0 e1
  have e0 : w7.cell? ⟨gb, 0, none⟩ = some (.int .i64 (p : Int)) := hW.gbx.cell (j := 0) (by omega)
  have e1 : w7.cell? ⟨gb, 1, none⟩ = some (.slice go k gc) := hW.gbx.cell (j := 1) (by omega)
  generalize ordB (p : Int) k F T G m' P' = bo
  cases bo
  · have r0 : w7.cell? ⟨w.heap.size, 0, none⟩ = some (.int .i64 0) := hW.rg.cell (j := 0) (by omega)
    have r1 : w7.cell? ⟨w.heap.size, 1, none⟩ = some (.slice none 0 0) := hW.rg.cell (j := 1) (by omega)
    have r2 : w7.cell? ⟨w.heap.size + 1, 0, none⟩ = some (.slice none 0 0) := hW.rh.cell (j := 0) (by omega)
    have r3 : w7.cell? ⟨w.heap.size + 1, 1, none⟩ = some (.slice none 0 0) := hW.rh.cell (j := 1) (by omega)
    have f0 : w7.cell? ⟨hb, 0, none⟩ = some (.slice po m pc) := hW.hbx.cell (j := 0) (by omega)
    have f1 : w7.cell? ⟨hb, 1, none⟩ = some (.slice eo l.length ec) := hW.hbx.cell (j := 1) (by omega)
    have z0 := hW.rg.frozen 0
    have z1 := hW.rg.frozen 1
    have z2 := hW.rh.frozen 0
    have z3 := hW.rh.frozen 1
    have hne := hW.ne
    have hlr := hW.rh.lt
    go_wp2
    go_region_law (fail)
    all_goals
      go_wp2
      have hO := hW.out hcl (.int .i64 (p : Int)) (.slice go k gc) (.slice po m pc) (.slice eo l.length ec)
      have d0 : ((((w7.setCell ⟨w.heap.size, 0, none⟩ (.int .i64 (p : Int))).setCell ⟨w.heap.size, 1, none⟩ (.slice go k gc)).setCell ⟨w.heap.size + 1, 0, none⟩ (.slice po m pc)).setCell ⟨w.heap.size + 1, 1, none⟩ (.slice eo l.length ec)).cell? ⟨w.heap.size, 0, none⟩ = some (.int .i64 (p : Int)) := by simp [go_sem, r0, r1, r2, r3]
      have d1 : ((((w7.setCell ⟨w.heap.size, 0, none⟩ (.int .i64 (p : Int))).setCell ⟨w.heap.size, 1, none⟩ (.slice go k gc)).setCell ⟨w.heap.size + 1, 0, none⟩ (.slice po m pc)).setCell ⟨w.heap.size + 1, 1, none⟩ (.slice eo l.length ec)).cell? ⟨w.heap.size, 1, none⟩ = some (.slice go k gc) := by simp [go_sem, r0, r1, r2, r3]
      have d2 : ((((w7.setCell ⟨w.heap.size, 0, none⟩ (.int .i64 (p : Int))).setCell ⟨w.heap.size, 1, none⟩ (.slice go k gc)).setCell ⟨w.heap.size + 1, 0, none⟩ (.slice po m pc)).setCell ⟨w.heap.size + 1, 1, none⟩ (.slice eo l.length ec)).cell? ⟨w.heap.size + 1, 0, none⟩ = some (.slice po m pc) := by simp [go_sem, r0, r1, r2, r3]
      have d3 : ((((w7.setCell ⟨w.heap.size, 0, none⟩ (.int .i64 (p : Int))).setCell ⟨w.heap.size, 1, none⟩ (.slice go k gc)).setCell ⟨w.heap.size + 1, 0, none⟩ (.slice po m pc)).setCell ⟨w.heap.size + 1, 1, none⟩ (.slice eo l.length ec)).cell? ⟨w.heap.size + 1, 1, none⟩ = some (.slice eo l.length ec) := by simp [go_sem, r0, r1, r2, r3]
      generalize ((((w7.setCell ⟨w.heap.size, 0, none⟩ (.int .i64 (p : Int))).setCell ⟨w.heap.size, 1, none⟩ (.slice go k gc)).setCell ⟨w.heap.size + 1, 0, none⟩ (.slice po m pc)).setCell ⟨w.heap.size + 1, 1, none⟩ (.slice eo l.length ec)) = WX at hO d0 d1 d2 d3 ⊢
      clear r0 r1 r2 r3 z0 z1 z2 z3
      simp [bodyPost, results, Tryz.results100, go_sem, d0, d1, d2, d3]
      exact ⟨p, go, k, gc, po, m, pc, P, eo, ec, l, by simp, by omega, hO.next (Below.refl _ _).drew⟩
  go_wp2_with fail
  refine (specFill_own (p : Int) go k gc F T G po' m' pc' P' (by omega) (by omega) _ hr6 hP').mono ?_
  rintro e w8 ⟨g8, ec8, l8, rfl, hl8, hE8, hb8⟩
  have hl216 : l8.length ≤ 216 := by
    rw [hl8]
    split
    · unfold lstF
      rw [Int.toNat_natCast]
      have := allS_len (B := nbA F T k) (P := P') (show p ≤ 24 by omega) p
      omega
    · simp
  have hw8 : Hid (LWf l8) := by
    show LWf l8
    rw [hl8]
    split
    · unfold lstF
      rw [Int.toNat_natCast]
      exact allS_wf (by omega) (by omega)
    · exact fun x hx => by cases hx
  clear hl8
  have hP7 := hP'
  replace hP' := hP'.below hb8 (Nat.le_refl _)
  replace hW := hW.next hb8
  have hs8 := hb8.size
  clear hb8 e0 e1 hr6
  have f0 : w8.cell? ⟨hb, 0, none⟩ = some (.slice po m pc) := hW.hbx.cell (j := 0) (by omega)
  have f1 : w8.cell? ⟨hb, 1, none⟩ = some (.slice eo l.length ec) := hW.hbx.cell (j := 1) (by omega)
  have y0 := hW.hbx.frozen 0
  have y1 := hW.hbx.frozen 1
  have hlb := hW.hbx.lt
  have hW9 := hW.setH hcl (pc' := pc') hP' (fun a e h0 => by have := hpb' a e h0; omega) (EOwnE.from (base := w7.heap.size) (show EOwnE w8 w7.heap.size (some ⟨g8, 0, none⟩) ec8 l8 from ⟨hE8, hw8.out⟩) (by omega)) (fun a x e h0 q => by
    obtain ⟨b9, o9, e9, c9⟩ := hP7 0 h0
    rw [e] at e9
    cases e9
    have h1 := lt_of_cell c9
    have h2 := hE8.base
    cases q
    simp only
    omega)
  go_wp2
  generalize ((w8.setCell ⟨hb, 0, none⟩ (.slice po' m' pc')).setCell ⟨hb, 1, none⟩ (.slice (some ⟨g8, 0, none⟩) l8.length ec8)) = W9 at hW9 ⊢
  clear hW f0 f1 y0 y1 hlb
  replace hW := hW9
  clear hW9
  have e0 : W9.cell? ⟨gb, 0, none⟩ = some (.int .i64 (p : Int)) := hW.gbx.cell (j := 0) (by omega)
  have e1 : W9.cell? ⟨gb, 1, none⟩ = some (.slice go k gc) := hW.gbx.cell (j := 1) (by omega)
  have r0 : W9.cell? ⟨w.heap.size, 0, none⟩ = some (.int .i64 0) := hW.rg.cell (j := 0) (by omega)
  have r1 : W9.cell? ⟨w.heap.size, 1, none⟩ = some (.slice none 0 0) := hW.rg.cell (j := 1) (by omega)
  have r2 : W9.cell? ⟨w.heap.size + 1, 0, none⟩ = some (.slice none 0 0) := hW.rh.cell (j := 0) (by omega)
  have r3 : W9.cell? ⟨w.heap.size + 1, 1, none⟩ = some (.slice none 0 0) := hW.rh.cell (j := 1) (by omega)
  have f0 : W9.cell? ⟨hb, 0, none⟩ = some (.slice po' m' pc') := hW.hbx.cell (j := 0) (by omega)
  have f1 : W9.cell? ⟨hb, 1, none⟩ = some (.slice (some ⟨g8, 0, none⟩) l8.length ec8) := hW.hbx.cell (j := 1) (by omega)
  have z0 := hW.rg.frozen 0
  have z1 := hW.rg.frozen 1
  have z2 := hW.rh.frozen 0
  have z3 := hW.rh.frozen 1
  have hne := hW.ne
  have hlr := hW.rh.lt
  go_wp2
  go_region_law (fail)
  all_goals
    go_wp2
    have hO := hW.out hcl (.int .i64 (p : Int)) (.slice go k gc) (.slice po' m' pc') (.slice (some ⟨g8, 0, none⟩) l8.length ec8)
    have d0 : ((((W9.setCell ⟨w.heap.size, 0, none⟩ (.int .i64 (p : Int))).setCell ⟨w.heap.size, 1, none⟩ (.slice go k gc)).setCell ⟨w.heap.size + 1, 0, none⟩ (.slice po' m' pc')).setCell ⟨w.heap.size + 1, 1, none⟩ (.slice (some ⟨g8, 0, none⟩) l8.length ec8)).cell? ⟨w.heap.size, 0, none⟩ = some (.int .i64 (p : Int)) := by simp [go_sem, r0, r1, r2, r3]
    have d1 : ((((W9.setCell ⟨w.heap.size, 0, none⟩ (.int .i64 (p : Int))).setCell ⟨w.heap.size, 1, none⟩ (.slice go k gc)).setCell ⟨w.heap.size + 1, 0, none⟩ (.slice po' m' pc')).setCell ⟨w.heap.size + 1, 1, none⟩ (.slice (some ⟨g8, 0, none⟩) l8.length ec8)).cell? ⟨w.heap.size, 1, none⟩ = some (.slice go k gc) := by simp [go_sem, r0, r1, r2, r3]
    have d2 : ((((W9.setCell ⟨w.heap.size, 0, none⟩ (.int .i64 (p : Int))).setCell ⟨w.heap.size, 1, none⟩ (.slice go k gc)).setCell ⟨w.heap.size + 1, 0, none⟩ (.slice po' m' pc')).setCell ⟨w.heap.size + 1, 1, none⟩ (.slice (some ⟨g8, 0, none⟩) l8.length ec8)).cell? ⟨w.heap.size + 1, 0, none⟩ = some (.slice po' m' pc') := by simp [go_sem, r0, r1, r2, r3]
    have d3 : ((((W9.setCell ⟨w.heap.size, 0, none⟩ (.int .i64 (p : Int))).setCell ⟨w.heap.size, 1, none⟩ (.slice go k gc)).setCell ⟨w.heap.size + 1, 0, none⟩ (.slice po' m' pc')).setCell ⟨w.heap.size + 1, 1, none⟩ (.slice (some ⟨g8, 0, none⟩) l8.length ec8)).cell? ⟨w.heap.size + 1, 1, none⟩ = some (.slice (some ⟨g8, 0, none⟩) l8.length ec8) := by simp [go_sem, r0, r1, r2, r3]
    generalize ((((W9.setCell ⟨w.heap.size, 0, none⟩ (.int .i64 (p : Int))).setCell ⟨w.heap.size, 1, none⟩ (.slice go k gc)).setCell ⟨w.heap.size + 1, 0, none⟩ (.slice po' m' pc')).setCell ⟨w.heap.size + 1, 1, none⟩ (.slice (some ⟨g8, 0, none⟩) l8.length ec8)) = WX at hO d0 d1 d2 d3 ⊢
    clear r0 r1 r2 r3 z0 z1 z2 z3
    simp [bodyPost, results, Tryz.results100, go_sem, d0, d1, d2, d3]
    exact ⟨p, go, k, gc, po', m', pc', P', some ⟨g8, 0, none⟩, ec8, l8, by simp, by omega, hO.next (Below.refl _ _).drew⟩

end Go.Proofs.YtokaechbmnbbiabGreat

/-
  The document's draw of a map and its hierarchy, right or not.
-/
set_option linter.unusedVariables false
set_option linter.unusedSimpArgs false
namespace Go.Proofs.YtokaechbmnbbiabGreat
open Go.RowKit Go.Maps Go.Deep Go.Joins
attribute [local go_sem ↓] Go.wp_at_zero Go.wp_at_succ

theorem l1FromN_any (base c : Nat) (ao : Option Addr) (n cap : Nat) (lo hi : Int) (h0 : -100 ≤ lo) (h1 : lo ≤ hi) (h2 : hi ≤ 100) (w : World) (hC : CurAt w base c ao n cap) :
    Calls Tryz.prog 103 #[.pointer (some ⟨c, 0, none⟩), .int .i64 lo, .int .i64 hi] w fun e w' => ∃ x : Int, e = .returned (.int .i64 x) ∧ (Lit.int .i64 x).wf = true ∧ CurAt w' base c ao n cap ∧ w.grownBy w' (some c) := by
  have e1 : IntKind.i64.wrap (hi - lo) = hi - lo := by rw [IntKind.wrap_i64]; omega
  have e2 : IntKind.i64.wrap (hi - lo + 1) = hi - lo + 1 := by rw [IntKind.wrap_i64]; omega
  go_enter Tryz.func103, Tryz.ntmps103
  go_wp2_with (go_at_call 64; refine (l1Below_any base c ao n cap _ (by omega) (by omega) _ hC).mono ?_; rintro e w1 ⟨x, rfl, hx, hC1, hg1⟩)
  go_ret
  refine ⟨_, rfl, ?_, hC1, hg1⟩
  first | exact lit_wf (by omega) (by omega) | (rw [IntKind.wrap_i64]; exact lit_wf (by omega) (by omega))
theorem wp_append_edgeE {w : World} {o : Oper} {a : Act} {K : Act → World → Prop} {Q : Exit → Act → World → Prop} (s x : Operand)
    (ho : o.op = .call { callee := .builtin .append, args := #[s, x], argTypes := #[28, 28] }) (base ec : Nat) (eo : Option Addr) (l : List (Int × Int)) (hs : a.eval s = .slice eo l.length ec)
    (hown : EOwnE w base eo ec l) (B c : Nat) (v u : Int) (hx : a.eval x = .slice (some ⟨B, 0, none⟩) 1 c) (h0 : w.cell? ⟨B, 0, none⟩ = some (.int .i64 v)) (h1 : w.cell? ⟨B, 1, none⟩ = some (.int .i64 u)) (hn : l.length ≤ 1000000) (hbase : base ≤ w.heap.size)
    (h : ∀ g' cap' w', EOwn w' base g' cap' (l ++ [(v, u)]) → w.grownBy w' (Value.slice eo l.length ec).ownBlock → ((Value.slice eo l.length ec).ownBlock = some g' ∨ g' = w.heap.size) → K (a.put o.dst (.slice (some ⟨g', 0, none⟩) (l.length + 1) cap')) w') : o.wp Tryz.prog a w K Q := by
  obtain ⟨i, hi, hz0, hz1, hz2⟩ := info_parts Tryz.infoEdge
  refine wp_append_lies w s x 28 ho base 62 i _ 2 16 Tryz.underlying28 hi hz0 hz1 hz2 rfl (by omega) _ l.length (ecells l) hs hown.1 ⟨B, 0, none⟩ 1 c [.int .i64 v, .int .i64 u] hx rfl (news_edge h0 h1) ?_ (by omega) (by unfold maxLen; omega) (by omega) hbase w.heap.size rfl ?_
  · intro u hu
    simp at hu
    rcases hu with rfl | rfl <;> rfl
  · intro g' cap' w' hown' hgrow hat hlt
    refine h g' cap' w' ?_ hgrow hat
    rw [ecells_snoc] at hown'
    unfold EOwn
    rw [List.length_append]
    exact hown'
theorem step_append_edgeE {w : World} {ops : Array Oper} {o : Oper} {a : Act} {K : Act → World → Prop} {Q : Exit → Act → World → Prop} {E : Prop} (hgd : o.guard = none) (s x : Operand)
    (ho : o.op = .call { callee := .builtin .append, args := #[s, x], argTypes := #[28, 28] }) (base ec : Nat) (eo : Option Addr) (l : List (Int × Int)) (hs : a.eval s = .slice eo l.length ec)
    (hown : EOwnE w base eo ec l) (B c : Nat) (v u : Int) (hx : a.eval x = .slice (some ⟨B, 0, none⟩) 1 c) (h0 : w.cell? ⟨B, 0, none⟩ = some (.int .i64 v)) (h1 : w.cell? ⟨B, 1, none⟩ = some (.int .i64 u)) (hn : l.length ≤ 1000000) (hbase : base ≤ w.heap.size)
    (h : ∀ g' cap' w', EOwn w' base g' cap' (l ++ [(v, u)]) → w.grownBy w' (Value.slice eo l.length ec).ownBlock → ((Value.slice eo l.length ec).ownBlock = some g' ∨ g' = w.heap.size) → K (a.put o.dst (.slice (some ⟨g', 0, none⟩) (l.length + 1) cap')) w') :
    if Region.wanted o (yielded ops a.tmps) = true then Oper.wp Tryz.prog o a w K Q else E := by
  have hw : Region.wanted o (yielded ops a.tmps) = true := by simp [Region.wanted, hgd]
  rw [if_pos hw]
  exact wp_append_edgeE s x ho base ec eo l hs hown B c v u hx h0 h1 hn hbase h
structure HV (w : World) (base c : Nat) (ao : Option Addr) (n cap : Nat) (gb hb : Nat) (go : Option Addr) (k gc : Nat) (po : Option Addr) (m : Nat) (P : Nat → Int) (eo : Option Addr) (ec : Nat) (l : List (Int × Int)) (W : World) : Prop where
  cur : CurAt W base c ao n cap
  gr : w.grownBy W (some c)
  rg : VHas W w.heap.size 26 2 (grV 0 (.slice none 0 0))
  rh : VHas W (w.heap.size + 1) 30 2 (me2 (.slice none 0 0) (.slice none 0 0))
  arcs : AOwnE W (w.heap.size + 2) go k gc
  ord : IRow W po m P
  ordb : ∀ a, po = some a → 0 < m → w.heap.size + 2 ≤ a.block ∧ a.block ≠ gb ∧ a.block ≠ hb
  edg : EOwnE W (w.heap.size + 2) eo ec l
  ne : w.heap.size + 2 ≤ gb ∧ w.heap.size + 2 ≤ hb ∧ gb ≠ hb
  sep : ∀ a x, po = some a → 0 < m → (Value.slice eo l.length ec).ownBlock = some x → a.block ≠ x
structure HR (w : World) (base c : Nat) (ao : Option Addr) (n cap : Nat) (go : Option Addr) (k gc : Nat) (po : Option Addr) (m : Nat) (P : Nat → Int) (eo : Option Addr) (q : Nat) (L H : Nat → Int) (W : World) : Prop where
  cur : CurAt W base c ao n cap
  gr : w.grownBy W (some c)
  arcs : AOwnE W w.heap.size go k gc
  ord : IRow W po m P
  ordb : ∀ a, po = some a → 0 < m → w.heap.size ≤ a.block
  edg : ERow W eo q L H
  edgb : ∀ a, eo = some a → 0 < q → w.heap.size ≤ a.block
  ewf : ∀ j, j < q → (Lit.int .i64 (L j)).wf = true ∧ (Lit.int .i64 (H j)).wf = true
section
variable {w W W' : World} {base c : Nat} {ao : Option Addr} {n cap gb hb : Nat} {p : Int} {go : Option Addr} {k gc : Nat} {po : Option Addr} {m pc : Nat} {P : Nat → Int} {eo : Option Addr} {ec : Nat} {l : List (Int × Int)}
theorem HW.hv (h : HW w base c ao n cap gb hb p go k gc po m pc P eo ec l W) : HV w base c ao n cap gb hb go k gc po m P eo ec l W := ⟨h.cur, h.gr, h.rg, h.rh, h.arcs, h.ord, h.ordb, h.edg, h.ne, h.sep⟩
theorem HV.out (h : HV w base c ao n cap gb hb go k gc po m P eo ec l W) (hc : c < w.heap.size) (v0 v1 v2 v3 : Value) :
    HD w base c ao n cap go k gc po m P eo ec l ((((W.setCell ⟨w.heap.size, 0, none⟩ v0).setCell ⟨w.heap.size, 1, none⟩ v1).setCell ⟨w.heap.size + 1, 0, none⟩ v2).setCell ⟨w.heap.size + 1, 1, none⟩ v3) := by
  have h1 := gr_setCell W w.heap.size 0 v0
  have h2 := gr_setCell (W.setCell ⟨w.heap.size, 0, none⟩ v0) w.heap.size 1 v1
  have h3 := gr_setCell ((W.setCell ⟨w.heap.size, 0, none⟩ v0).setCell ⟨w.heap.size, 1, none⟩ v1) (w.heap.size + 1) 0 v2
  have h4 := gr_setCell (((W.setCell ⟨w.heap.size, 0, none⟩ v0).setCell ⟨w.heap.size, 1, none⟩ v1).setCell ⟨w.heap.size + 1, 0, none⟩ v2) (w.heap.size + 1) 1 v3
  generalize (((W.setCell ⟨w.heap.size, 0, none⟩ v0).setCell ⟨w.heap.size, 1, none⟩ v1).setCell ⟨w.heap.size + 1, 0, none⟩ v2) = W3 at h3 h4 ⊢
  generalize ((W.setCell ⟨w.heap.size, 0, none⟩ v0).setCell ⟨w.heap.size, 1, none⟩ v1) = W2 at h2 h3
  generalize (W.setCell ⟨w.heap.size, 0, none⟩ v0) = W1 at h1 h2
  have hge := h.cur.ge
  refine ⟨(((h.cur.grown h1 (by omega) (by omega)).grown h2 (by omega) (by omega)).grown h3 (by omega) (by omega)).grown h4 (by omega) (by omega), ?_, ((((h.arcs.grown h1 (by omega)).grown h2 (by omega)).grown h3 (by omega)).grown h4 (by omega)).from (by omega), ?_, fun a e h0 => by have := h.ordb a e h0; omega, ?_, h.sep⟩
  · exact gr_far (gr_far (gr_far (gr_far h.gr h1 (fun g e => by cases e; exact Nat.le_refl _) (Nat.le_refl _)) h2 (fun g e => by cases e; exact Nat.le_refl _) (Nat.le_refl _)) h3 (fun g e => by cases e; exact Nat.le_refl _) (by omega)) h4 (fun g e => by cases e; exact Nat.le_refl _) (by omega)
  · exact (((h.ord.otherE h1 (fun a e h0 => by have := h.ordb a e h0; omega)).otherE h2 (fun a e h0 => by have := h.ordb a e h0; omega)).otherE h3 (fun a e h0 => by have := h.ordb a e h0; omega)).otherE h4 (fun a e h0 => by have := h.ordb a e h0; omega)
  · have hx : ∀ x, (Value.slice eo l.length ec).ownBlock = some x → w.heap.size + 2 ≤ x := fun x e => (h.edg.at e).1
    exact ((((h.edg.grown h1 (fun x e q => by have := hx x e; cases q; omega)).grown h2 (fun x e q => by have := hx x e; cases q; omega)).grown h3 (fun x e q => by have := hx x e; cases q; omega)).grown h4 (fun x e q => by have := hx x e; cases q; omega)).from (by omega)
theorem HD.hr (h : HD w base c ao n cap go k gc po m P eo ec l W) : HR w base c ao n cap go k gc po m P eo l.length (Lf l) (Hf l) W :=
  ⟨h.cur, h.gr, h.arcs, h.ord, h.ordb, h.edg.row, fun a e h0 => by
    obtain ⟨g, e2, h2⟩ := h.edg.some h0
    rw [e2] at e
    cases e
    exact h2.base, h.edg.2.at⟩
theorem HR.next {q : Nat} {L H : Nat → Int} (h : HR w base c ao n cap go k gc po m P eo q L H W) (hb' : Below W.heap.size W W') : HR w base c ao n cap go k gc po m P eo q L H W' :=
  ⟨h.cur.next hb', h.gr.trans ⟨hb'.os, hb'.tape, hb'.output, hb'.size, fun k hk _ => hb'.block k hk⟩, h.arcs.next hb', h.ord.below hb' (Nat.le_refl _), h.ordb, h.edg.below hb' (Nat.le_refl _), h.edgb, h.ewf⟩
theorem HD.cut2 (h : HD w base c ao n cap go k gc po m P eo ec l W) {eo' : Option Addr} {q : Nat} {L H : Nat → Int} (hE : ERow W eo' q L H) (hb' : ∀ a, eo' = some a → 0 < q → w.heap.size ≤ a.block) (hw' : ∀ j, j < q → (Lit.int .i64 (L j)).wf = true ∧ (Lit.int .i64 (H j)).wf = true) : HR w base c ao n cap go k gc po m P eo' q L H W.drew :=
  (HR.mk h.cur h.gr h.arcs h.ord h.ordb hE hb' hw').next (Below.refl _ _).drew
theorem ERow.tail {W : World} {g q : Nat} {L H : Nat → Int} (h : ERow W (some ⟨g, 0, none⟩) q L H) : ERow W (some ⟨g, 2, none⟩) (q - 1) (fun j => L (j + 1)) (fun j => H (j + 1)) := fun k hk => by
  obtain ⟨b, o, e, c0, c1⟩ := h (k + 1) (by omega)
  cases e
  refine ⟨g, 2, rfl, ?_, ?_⟩
  · rw [← c0]; congr 2; omega
  · rw [← c1]; congr 2; omega
theorem HW.setG (h : HW w base c ao n cap gb hb p go k gc po m pc P eo ec l W) (hc : c < w.heap.size) {p' : Int} {go' : Option Addr} {k' gc' : Nat} (hA : AOwnE W (w.heap.size + 2) go' k' gc') :
    HW w base c ao n cap gb hb p' go' k' gc' po m pc P eo ec l ((W.setCell ⟨gb, 0, none⟩ (.int .i64 p')).setCell ⟨gb, 1, none⟩ (.slice go' k' gc')) := by
  have h1 := gr_setCell W gb 0 (.int .i64 p')
  have h2 := gr_setCell (W.setCell ⟨gb, 0, none⟩ (.int .i64 p')) gb 1 (.slice go' k' gc')
  have gbx := ((h.gbx.set 0 (.int .i64 p')).set 1 (.slice go' k' gc')).congr (g := grV p' (.slice go' k' gc')) (fun i hi => by
    have : i = 0 ∨ i = 1 := by omega
    rcases this with rfl | rfl <;> rfl)
  have hne := h.ne
  have hge := h.cur.ge
  have na : ∀ y, (Value.slice go' k' gc').ownBlock = some y → y ≠ gb := fun y e q => by
    subst q
    obtain ⟨cur, q1, _⟩ := h.gbx
    obtain ⟨g, _, _, h0 | ⟨g', cap', cur', hv, hb, hh, rest⟩⟩ := hA
    · rw [h0.1] at e; cases e
    · rw [hv] at e
      cases e
      rw [q1] at hh
      simp at hh
  have nE : ∀ y, (Value.slice eo l.length ec).ownBlock = some y → some gb ≠ some y := fun y e q => vhas_edge (by decide) h.gbx h.edg e (by simpa using q.symm)
  generalize ((W.setCell ⟨gb, 0, none⟩ (.int .i64 p')).setCell ⟨gb, 1, none⟩ (.slice go' k' gc')) = W2 at h2 gbx ⊢
  generalize (W.setCell ⟨gb, 0, none⟩ (.int .i64 p')) = W1 at h1 h2
  exact ⟨(h.cur.grown h1 (by omega) (by omega)).grown h2 (by omega) (by omega), gr_far (gr_far h.gr h1 (fun g e => by cases e; exact Nat.le_refl _) (by omega)) h2 (fun g e => by cases e; exact Nat.le_refl _) (by omega), (h.rg.grown h1 (by simp; omega)).grown h2 (by simp; omega), (h.rh.grown h1 (by simp; omega)).grown h2 (by simp; omega), gbx, (h.hbx.grown h1 (by simp; omega)).grown h2 (by simp; omega), (hA.grownN h1 na).grownN h2 na, (h.ord.otherE h1 (fun a e h0 => (h.ordb a e h0).2.1)).otherE h2 (fun a e h0 => (h.ordb a e h0).2.1), h.ordb, (h.edg.grown h1 nE).grown h2 nE, h.ne, h.sep⟩
theorem HW.setO (h : HW w base c ao n cap gb hb p go k gc po m pc P eo ec l W) (hc : c < w.heap.size) {po' : Option Addr} {m' pc' : Nat} {P' : Nat → Int} (hP : IRow W po' m' P') (hpb : ∀ a, po' = some a → 0 < m' → w.heap.size + 2 ≤ a.block ∧ a.block ≠ gb ∧ a.block ≠ hb) (hsep : ∀ a x, po' = some a → 0 < m' → (Value.slice eo l.length ec).ownBlock = some x → a.block ≠ x) :
    HW w base c ao n cap gb hb p go k gc po' m' pc' P' eo ec l (W.setCell ⟨hb, 0, none⟩ (.slice po' m' pc')) := by
  have h1 := gr_setCell W hb 0 (.slice po' m' pc')
  have hbx := (h.hbx.set 0 (.slice po' m' pc')).congr (g := me2 (.slice po' m' pc') (.slice eo l.length ec)) (fun i hi => by
    have : i = 0 ∨ i = 1 := by omega
    rcases this with rfl | rfl <;> rfl)
  have hne := h.ne
  have hge := h.cur.ge
  have na : ∀ y, (Value.slice go k gc).ownBlock = some y → y ≠ hb := fun y e => vhas_arc h.hbx h.arcs e
  have nE : ∀ y, (Value.slice eo l.length ec).ownBlock = some y → some hb ≠ some y := fun y e q => vhas_edge (by decide) h.hbx h.edg e (by simpa using q.symm)
  generalize (W.setCell ⟨hb, 0, none⟩ (.slice po' m' pc')) = W1 at h1 hbx ⊢
  exact ⟨h.cur.grown h1 (by omega) (by omega), gr_far h.gr h1 (fun g e => by cases e; exact Nat.le_refl _) (by omega), h.rg.grown h1 (by simp; omega), h.rh.grown h1 (by simp; omega), h.gbx.grown h1 (by simp; omega), hbx, h.arcs.grownN h1 na, hP.otherE h1 (fun a e h0 => (hpb a e h0).2.2), hpb, h.edg.grown h1 nE, h.ne, hsep⟩
theorem HW.cutE (h : HW w base c ao n cap gb hb p go k gc po m pc P eo ec l W) (hc : c < w.heap.size) (v : Value) : HV w base c ao n cap gb hb go k gc po m P eo ec l (W.setCell ⟨hb, 1, none⟩ v) ∧ VHas (W.setCell ⟨hb, 1, none⟩ v) gb 26 2 (grV p (.slice go k gc)) ∧ VHas (W.setCell ⟨hb, 1, none⟩ v) hb 30 2 (me2 (.slice po m pc) v) := by
  have h1 := gr_setCell W hb 1 v
  have hbx := (h.hbx.set 1 v).congr (g := me2 (.slice po m pc) v) (fun i hi => by
    have : i = 0 ∨ i = 1 := by omega
    rcases this with rfl | rfl <;> rfl)
  have hne := h.ne
  have hge := h.cur.ge
  have na : ∀ y, (Value.slice go k gc).ownBlock = some y → y ≠ hb := fun y e => vhas_arc h.hbx h.arcs e
  have nE : ∀ y, (Value.slice eo l.length ec).ownBlock = some y → some hb ≠ some y := fun y e q => vhas_edge (by decide) h.hbx h.edg e (by simpa using q.symm)
  generalize (W.setCell ⟨hb, 1, none⟩ v) = W1 at h1 hbx ⊢
  exact ⟨⟨h.cur.grown h1 (by omega) (by omega), gr_far h.gr h1 (fun g e => by cases e; exact Nat.le_refl _) (by omega), h.rg.grown h1 (by simp; omega), h.rh.grown h1 (by simp; omega), h.arcs.grownN h1 na, h.ord.otherE h1 (fun a e h0 => (h.ordb a e h0).2.2), h.ordb, h.edg.grown h1 nE, h.ne, h.sep⟩, h.gbx.grown h1 (by simp; omega), hbx⟩
theorem HW.appBox (h : HW w base c ao n cap gb hb p go k gc po m pc P eo ec l W) (hg : W.grownBy W' (Value.slice eo l.length ec).ownBlock) : VHas W' hb 30 2 (me2 (.slice po m pc) (.slice eo l.length ec)) :=
  h.hbx.grown hg (fun e => vhas_edge (by decide) h.hbx h.edg e.symm rfl)
theorem HW.appE (h : HW w base c ao n cap gb hb p go k gc po m pc P eo ec l W) (hc : c < w.heap.size) (hg : W.grownBy W' (Value.slice eo l.length ec).ownBlock) {g' ec' : Nat} {l' : List (Int × Int)} (hE : EOwn W' (w.heap.size + 2) g' ec' l') (hwl : LWf l') (hat : (Value.slice eo l.length ec).ownBlock = some g' ∨ g' = W.heap.size) :
    HW w base c ao n cap gb hb p go k gc po m pc P (some ⟨g', 0, none⟩) ec' l' (W'.setCell ⟨hb, 1, none⟩ (.slice (some ⟨g', 0, none⟩) l'.length ec')) := by
  have hr : ∀ x, (Value.slice eo l.length ec).ownBlock = some x → w.heap.size + 2 ≤ x := fun x e => (h.edg.at e).1
  have hne := h.ne
  have hge := h.cur.ge
  have n1 : some gb ≠ (Value.slice eo l.length ec).ownBlock := fun e => vhas_edge (by decide) h.gbx h.edg e.symm rfl
  have n2 : some hb ≠ (Value.slice eo l.length ec).ownBlock := fun e => vhas_edge (by decide) h.hbx h.edg e.symm rfl
  have na0 : ∀ y, (Value.slice go k gc).ownBlock = some y → some y ≠ (Value.slice eo l.length ec).ownBlock := fun y e q => by
    obtain ⟨f, _, _, h0 | ⟨g1, cap1, cur1, hv, hb1, hh, rest⟩⟩ := h.arcs
    · rw [h0.1] at e; cases e
    · rw [hv] at e
      cases e
      obtain ⟨⟨_, h0 | ⟨g2, cap2, cur2, hv2, hb2, hh2, rest2⟩⟩, _⟩ := h.edg
      · rw [h0.1] at q; cases q
      · rw [hv2] at q
        cases q
        rw [hh] at hh2
        simp at hh2
  have hx : IRow W' po m P := h.ord.other hg (fun a e h0 q => h.sep a a.block e h0 q.symm rfl)
  have hgbx := h.gbx.grown hg n1
  have hhbx := h.hbx.grown hg n2
  have hA : AOwnE W' (w.heap.size + 2) go k gc := h.arcs.of_block (fun y e => hg.block y (h.arcs.at e).2 (na0 y e))
  have h1 := gr_setCell W' hb 1 (.slice (some ⟨g', 0, none⟩) l'.length ec')
  have hbx := (hhbx.set 1 (.slice (some ⟨g', 0, none⟩) l'.length ec')).congr (g := me2 (.slice po m pc) (.slice (some ⟨g', 0, none⟩) l'.length ec')) (fun i hi => by
    have : i = 0 ∨ i = 1 := by omega
    rcases this with rfl | rfl <;> rfl)
  have na : ∀ y, (Value.slice go k gc).ownBlock = some y → y ≠ hb := fun y e => vhas_arc hhbx hA e
  have hE' : EOwnE W' (w.heap.size + 2) (some ⟨g', 0, none⟩) ec' l' := ⟨hE, hwl⟩
  have nE : ∀ y, (Value.slice (some (⟨g', 0, none⟩ : Addr)) l'.length ec').ownBlock = some y → some hb ≠ some y := fun y e q => vhas_edge (by decide) hhbx hE' e (by simpa using q.symm)
  have hC := CurAt.far h.cur hg hr (by omega)
  have hgr := gr_far h.gr hg hr (by omega)
  have hrg := h.rg.grown hg (fun e => by have := hr _ e.symm; omega)
  have hrh := h.rh.grown hg (fun e => by have := hr _ e.symm; omega)
  generalize (W'.setCell ⟨hb, 1, none⟩ (.slice (some ⟨g', 0, none⟩) l'.length ec')) = W1 at h1 hbx ⊢
  exact ⟨hC.grown h1 (by omega) (by omega), gr_far hgr h1 (fun g e => by cases e; exact Nat.le_refl _) (by omega), hrg.grown h1 (by simp; omega), hrh.grown h1 (by simp; omega), hgbx.grown h1 (by simp; omega), hbx, hA.grownN h1 na, hx.otherE h1 (fun a e h0 => (h.ordb a e h0).2.2), h.ordb, hE'.grown h1 nE, h.ne, fun a x e h0 q => by
    cases q
    rcases hat with q | q
    · exact h.sep a _ e h0 q
    · obtain ⟨b9, o9, e9, c9⟩ := h.ord 0 h0
      rw [e] at e9
      cases e9
      have h1 := lt_of_cell c9
      simp only
      omega⟩
end

end Go.Proofs.YtokaechbmnbbiabGreat

/-
  An answer of yes or no.
-/
set_option linter.unusedVariables false
namespace Go.Proofs.YtokaechbmnbbiabGreat
open Go

def BAns (e : Ending) (P : Prop) : Prop := ∃ v : Bool, e = .returned (.bool v) ∧ (v = true ↔ P)
theorem bans_no {P : Prop} (h : ¬ P) : BAns (.returned (.bool false)) P := ⟨false, rfl, by simp [h]⟩
theorem bans_yes {P : Prop} (h : P) : BAns (.returned (.bool true)) P := ⟨true, rfl, by simp [h]⟩

end Go.Proofs.YtokaechbmnbbiabGreat

/-
  Which edges are as told: the document's and the program's look, each held against one plain function of the edges.
-/
set_option linter.unusedVariables false
set_option linter.unusedSimpArgs false
namespace Go.Proofs.YtokaechbmnbbiabGreat
open Go.RowKit
attribute [local go_sem ↓] Go.wp_at_zero Go.wp_at_succ

def edgeB (l h p : Int) : Bool := inB l 0 (p - 1) && inB h (l + 1) (p - 1)
def edB (p : Int) (L H : Nat → Int) : Nat → Bool
  | 0 => true
  | k + 1 => edB p L H k && (edgeB (L k) (H k) p && (k == 0 || upB (L (k - 1)) (H (k - 1)) (L k) (H k)))
def edgesB (p : Int) (n : Nat) (L H : Nat → Int) : Bool := inB p 1 24 && edB p L H n

theorem edB_no {p : Int} {L H : Nat → Int} {k : Nat} (h : edgeB (L k) (H k) p = false) : ∀ n, k < n → edB p L H n = false
  | 0, hk => by omega
  | n + 1, hk => by
    by_cases e : k = n
    · subst e; simp [edB, h]
    · simp [edB, edB_no h n (by omega)]
theorem edB_down {p : Int} {L H : Nat → Int} {k : Nat} (h0 : 0 < k) (h : upB (L (k - 1)) (H (k - 1)) (L k) (H k) = false) : ∀ n, k < n → edB p L H n = false
  | 0, hk => by omega
  | n + 1, hk => by
    by_cases e : k = n
    · subst e
      have : (k == 0) = false := by simp; omega
      simp [edB, h, this]
    · simp [edB, edB_down h0 h n (by omega)]
theorem edB_step {p : Int} {L H : Nat → Int} {k : Nat} (h : edB p L H k = true) (ha : edgeB (L k) (H k) p = true) (hu : k = 0 ∨ upB (L (k - 1)) (H (k - 1)) (L k) (H k) = true) : edB p L H (k + 1) = true := by
  rcases hu with hu | hu
  · subst hu; simp [edB, ha]
  · simp [edB, h, ha, hu]
theorem edB_at {p : Int} {L H : Nat → Int} : ∀ n, edB p L H n = true → ∀ k, k < n → edgeB (L k) (H k) p = true
  | 0, _, k, hk => by omega
  | n + 1, h, k, hk => by
    simp [edB] at h
    by_cases e : k = n
    · subst e; exact h.2.1
    · exact edB_at n h.1 k (by omega)
theorem edgeB_in {l h p : Int} (H : edgeB l h p = true) : 0 ≤ l ∧ l < h ∧ h < p := by
  simp [edgeB, inB] at H
  omega
set_option maxHeartbeats 800000 in
theorem edgeOk_any (l h p : Int) (w : World) :
    Calls Tryz.prog 127 #[.agg #[.int .i64 l, .int .i64 h], .int .i64 p] w fun e w' => e = .returned (.bool (edgeB l h p)) ∧ Below w.heap.size w w' := by
  have e : edgeB l h p = (decide (0 ≤ l) && (decide (l < h) && decide (h < p))) := by
    unfold edgeB inB
    rw [Bool.eq_iff_iff]
    simp
    omega
  rw [e]
  clear e
  by_cases h1 : 0 ≤ l
  · by_cases h2 : l < h
    · by_cases h3 : h < p <;>
      · go_enter Tryz.func127, Tryz.ntmps127
        go_wp2
        go_ret
        exact ⟨by simp [h1, h2, h3], (Below.refl _ _).alloc (Nat.le_refl _) _⟩
    · go_enter Tryz.func127, Tryz.ntmps127
      go_wp2
      go_ret
      exact ⟨by simp [h2]; omega, (Below.refl _ _).alloc (Nat.le_refl _) _⟩
  · go_enter Tryz.func127, Tryz.ntmps127
    go_wp2
    go_ret
    exact ⟨by simp [h1]; omega, (Below.refl _ _).alloc (Nat.le_refl _) _⟩

end Go.Proofs.YtokaechbmnbbiabGreat
