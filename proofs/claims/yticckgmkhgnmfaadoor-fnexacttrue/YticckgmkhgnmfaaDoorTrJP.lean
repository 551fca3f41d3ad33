/-
  What stands in the loop of True.
-/
import Derived.Test.YticckgmkhgnmfaaDoorTrPP
import Derived.Test.YticckgmkhgnmfaaDoorPack5
import Derived.Test.YticckgmkhgnmfaaDoorRdJP
import Derived.Test.YticckgmkhgnmfaaDoorPack2
import Derived.Test.YticckgmkhgnmfaaDoorAnrP
import Derived.Test.YticckgmkhgnmfaaDoorPack7
import Derived.Test.YticckgmkhgnmfaaDoorPack6
set_option linter.unusedVariables false
set_option linter.unusedSimpArgs false
namespace Go.Proofs.YticckgmkhgnmfaaDoor
open Go Go.RowKit
attribute [local go_sem ↓] Go.wp_at_zero Go.wp_at_succ

theorem trBox (w : World) (l : List Value) (t : TypeId) : VHas (w.alloc (.cells l.toArray t)) w.heap.size t l.length (lf l) :=
  ⟨_, Go.Deep.blk_alloc_new _ _, by simp, fun j hj => by simp [lf, hj]⟩
theorem Tryd.infoTrS : (Tryd.prog.info? 9).map (fun i => (i.zero, i.size, i.bytes)) = some (some (.string ByteArray.empty), 1, 16) := by kernel_rfl
theorem Tryd.elT : ElI Tryd.prog 34 9 1 16 := ⟨Tryd.underlying34, by
  obtain ⟨i0, hi0, hz0, hz1, hz2⟩ := info_parts Tryd.infoTrS
  exact ⟨i0, _, hi0, hz0, hz1, hz2, rfl⟩, by omega, by omega⟩
theorem row_gr {w w' : World} {ao : Option Addr} {n : Nat} {F T G : Nat → Int} {row : Option Nat} (h : Row w ao n F T G) (hg : w.grownBy w' row) (hne : ∀ x, row = some x → ∀ a, ao = some a → 0 < n → a.block ≠ x) : Row w' ao n F T G := fun k hk => by
  obtain ⟨b, o, e, c0, c1, c2⟩ := h k hk
  have hb : w'.heap[b]? = w.heap[b]? := hg.block b (lt_of_cell c0) (fun q => hne b q.symm _ e (by omega) rfl)
  exact ⟨b, o, e, by rw [World.cell?_of_block (w := w) hb]; exact c0, by rw [World.cell?_of_block (w := w) hb]; exact c1, by rw [World.cell?_of_block (w := w) hb]; exact c2⟩
theorem dT_len (N : Nat) (D : Nat → Int) (b : Int) (h : ∀ v, v < N → D v ≤ 1000000000000) : (dT N D b).length ≤ 1000000000002 := by
  unfold dT
  split
  · next q =>
    have h0 := inB_iff.1 q.1
    have h1 := h b.toNat (by omega)
    have := decDigits_len (D b.toNat).toNat
    omega
  · simp
theorem add_run {o : Oper} {ev : Operand → Value} {x y : Operand} {t u : TypeId} {a b : ByteArray} {w : World} (ho : o.op = .binOp .add t x y u) (hx : ev x = .string a) (hy : ev y = .string b) (hl : ¬ 9223372036854775807 < a.size + b.size) : (execOp ev o).run Tryd.prog w = .ok (.value (.string (a ++ b))) w := by
  unfold execOp
  simp [ho, hx, hy, go_sem, hl]
/-- append, one operation alone. -/
theorem wp_appG {P : Program} {o : Oper} {a : Act} {w : World} {K : Act → World → Prop} {Q : Exit → Act → World → Prop} (s x : Operand) {t e : TypeId} {size bytes : Nat} (E : ElI P t e size bytes) (ho : o.op = .call { callee := .builtin .append, args := #[s, x], argTypes := #[t, t] }) (d : Nat) (hd : o.dst = some d) (base : Nat) (f : Nat → Value) (ao : Option Addr) (n cap : Nat) (hs : a.eval s = .slice ao n cap) (h0 : GOwn w base e size ao n cap f) (so : Option Addr) (m c : Nat) (g : Nat → Value) (hx : a.eval x = .slice so m c) (hr : GRow w so (m * size) g) (h1 : ∀ j, (g j).oneCell' = true) (hn : n + m ≤ 100000000) (hbase : base ≤ w.heap.size)
    (h : ∀ ao' cap' w', GOwn w' base e size ao' (n + m) cap' (fun j => if j < n * size then f j else g (j - n * size)) → w.grownBy w' (Value.slice ao n cap).ownBlock → ((Value.slice ao' (n + m) cap').ownBlock = (Value.slice ao n cap).ownBlock ∨ (Value.slice ao' (n + m) cap').ownBlock = some w.heap.size) → K (a.put (some d) (.slice ao' (n + m) cap')) w') : o.wp P a w K Q := by
  obtain ⟨ao', cap', w', h2, h3, h4, h5⟩ := run_app E w o.type base f ao n cap h0 so m c g hr h1 hn hbase
  unfold Oper.wp
  rw [exec_append ho hs hx h2]
  simp only [Oper.upon, hd]
  exact h _ _ _ h3 h4 h5
/-- What stands at each round. -/
structure TrJ (w W : World) (p : Int) (n : Nat) (F T : Nat → Int) (ao : Option Addr) (cap : Nat) (so : Option Addr) (sc : Nat) (st : TrS) : Prop where
  own : OwS W w.heap.size so sc st.out
  box : VHas W w.heap.size 40 2 (lf [.int .i64 p, .slice ao n cap])
  row : Row W ao n F T st.G
  ap : ∀ x, (Value.slice so st.out.length sc).ownBlock = some x → ∀ a, ao = some a → 0 < n → a.block ≠ x
  bel : RB w W
section
variable {w W W' : World} {p : Int} {n : Nat} {F T : Nat → Int} {ao : Option Addr} {cap : Nat} {so : Option Addr} {sc : Nat} {st : TrS}
theorem TrJ.next (h : TrJ w W p n F T ao cap so sc st) (hb : RB W W') : TrJ w W' p n F T ao cap so sc st := ⟨h.own.next hb, h.box.next hb, h.row.below hb (Nat.le_refl _), h.ap, RB.trans _ _ _ h.bel hb⟩
theorem TrJ.put (h : TrJ w W p n F T ao cap so sc st) {so' : Option Addr} {sc' : Nat} {x : ByteArray} (ho : GOwn W' w.heap.size 9 1 so' (st.out.length + 1) sc' (fun j => if j < st.out.length * 1 then lf (slc st.out) j else (fun _ => Value.string x) (j - st.out.length * 1))) (hg : W.grownBy W' (Value.slice so st.out.length sc).ownBlock) (hd : (Value.slice so' (st.out.length + 1) sc').ownBlock = (Value.slice so st.out.length sc).ownBlock ∨ (Value.slice so' (st.out.length + 1) sc').ownBlock = some W.heap.size) : TrJ w W' p n F T ao cap so' sc' ⟨st.G, st.v, st.out ++ [x]⟩ := by
  have hT : ∀ y, (Value.slice so st.out.length sc).ownBlock = some y → Typed W y 9 := fun y e => GOwn.typed h.own e
  refine ⟨OwS.more ho, h.box.gr hg hT (by decide), row_gr h.row hg h.ap, ?_, below_row h.bel hg (fun y e => (GOwn.at h.own e).1)⟩
  intro y e a ha hn
  have e' : (Value.slice so' (st.out.length + 1) sc').ownBlock = some y := by
    simpa using e
  rcases hd with hd | hd
  · rw [hd] at e'
    exact h.ap y e' a ha hn
  · rw [hd] at e'
    obtain ⟨b, o, e2, c0, _⟩ := h.row 0 hn
    rw [ha] at e2
    cases e2
    have := lt_of_cell c0
    have h3 : W.heap.size = y := Option.some.inj e'
    simp only
    omega
theorem TrJ.weigh (h : TrJ w W p n F T ao cap so sc st) {ao' : Option Addr} {cap' : Nat} {H : Nat → Int} {v : Nat} (hg : W.grownBy W' (some w.heap.size)) (hv : VHas W' w.heap.size 40 2 (lf [.int .i64 p, .slice ao' n cap'])) (hr : OwnS W w.heap.size ao' n (ar F T H)) (hw : ∀ x, (Value.slice so st.out.length sc).ownBlock = some x → ∀ a, ao' = some a → 0 < n → a.block ≠ x) : TrJ w W' p n F T ao' cap' so sc ⟨H, v, st.out⟩ := by
  have hT : ∀ x, some w.heap.size = some x → Typed W x 40 := fun x e => by cases e; exact h.box.typed
  refine ⟨GOwn.gr h.own hg hT (by decide), hv, row_gr hr.row hg (fun x e a ha hn => ?_), hw, below_row h.bel hg (fun x e => by cases e; exact Nat.le_refl _)⟩
  obtain ⟨b, e2, hb, hh⟩ := hr 0 hn
  rw [ha] at e2
  cases e2
  obtain ⟨cur, hcur, _⟩ := hh
  exact typed_ne (t := 82) (u := 40) ⟨_, _, hcur⟩ (hT x e) (by decide)
end

end Go.Proofs.YticckgmkhgnmfaaDoor
