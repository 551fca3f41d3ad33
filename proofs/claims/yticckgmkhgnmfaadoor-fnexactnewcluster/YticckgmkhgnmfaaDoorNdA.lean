/-
  Servers and messages, where they lie.
-/
import Derived.Test.YticckgmkhgnmfaaDoorEnt
import Derived.Test.YticckgmkhgnmfaaDoorInts
import Derived.Test.YticckgmkhgnmfaaDoorGard
import Derived.Test.YticckgmkhgnmfaaDoorSqu
set_option linter.unusedVariables false
set_option linter.unusedSimpArgs false
namespace Go.Proofs.YticckgmkhgnmfaaDoor
open Go Go.RowKit

structure En where
  t : Int
  x : ByteArray
def en0 : En := ⟨0, ByteArray.empty⟩
structure Nd where
  id : Int
  peers : Int
  term : Int
  vote : Int
  log : List En
  role : Int
  commit : Int
  votes : List Int
  next : List Int
  mat : List Int
structure Ms where
  kind : Int
  term : Int
  frm : Int
  to : Int
  index : Int
  lterm : Int
  ents : List En
  commit : Int
  yes : Bool
def tOf (l : List En) (k : Nat) : Int := (l.getD k en0).t
def xOf (l : List En) (k : Nat) : ByteArray := (l.getD k en0).x
def iOf (l : List Int) (k : Nat) : Int := l.getD k 0
/-- Cells. -/
def ilc (l : List Int) : List Value := l.map (Value.int .i64)
def elc : List En → List Value
  | [] => []
  | e :: r => .int .i64 e.t :: .string e.x :: elc r
theorem ilc_len (l : List Int) : (ilc l).length = l.length := by simp [ilc]
theorem elc_len : ∀ l : List En, (elc l).length = l.length * 2
  | [] => rfl
  | e :: r => by simp [elc, elc_len r]; omega
theorem ilc_at {l : List Int} {k : Nat} (h : k < l.length) : (ilc l)[k]? = some (.int .i64 (iOf l k)) := by
  simp [ilc, iOf, h]
theorem elc_at : ∀ {l : List En} {k : Nat}, k < l.length → (elc l)[k * 2]? = some (.int .i64 (tOf l k)) ∧ (elc l)[k * 2 + 1]? = some (.string (xOf l k))
  | [], k, h => by simp at h
  | e :: r, 0, h => by simp [elc, tOf, xOf]
  | e :: r, k + 1, h => by
    have := elc_at (l := r) (k := k) (by simpa using h)
    have e1 : (k + 1) * 2 = k * 2 + 1 + 1 := by omega
    rw [e1]
    simp only [elc, List.getElem?_cons_succ]
    simpa [tOf, xOf] using this
/-- Cells behind a slice, in a block of a type. -/
def LRow (w : World) (t : TypeId) (ao : Option Addr) (cs : List Value) : Prop := cs ≠ [] → ∃ b o, ao = some ⟨b, o, none⟩ ∧ Typed w b t ∧ ∀ j v, cs[j]? = some v → w.cell? ⟨b, o + j, none⟩ = some v
theorem tylt {w : World} {b : Nat} {t : TypeId} (h : Typed w b t) : b < w.heap.size := by
  obtain ⟨cs, z, h⟩ := h
  exact (Array.getElem?_eq_some_iff.1 h).1
theorem LRow.of_block {w w' : World} {t : TypeId} {ao : Option Addr} {cs : List Value} (h : LRow w t ao cs) (e : ∀ b, Typed w b t → w'.heap[b]? = w.heap[b]?) : LRow w' t ao cs := fun hc => by
  obtain ⟨b, o, e1, ht, h2⟩ := h hc
  refine ⟨b, o, e1, ?_, fun j v hj => by rw [World.cell?_of_block (w := w) (e b ht)]; exact h2 j v hj⟩
  have e2 := e b ht
  obtain ⟨cs', z, h3⟩ := ht
  exact ⟨cs', z, e2.trans h3⟩
theorem LRow.next {w w' : World} {t : TypeId} {ao : Option Addr} {cs : List Value} (h : LRow w t ao cs) (hb : Below w.heap.size w w') : LRow w' t ao cs := h.of_block fun b ht => hb.block b (tylt ht)
theorem LRow.gr {w w' : World} {t u : TypeId} {ao : Option Addr} {cs : List Value} {row : Option Nat} (h : LRow w t ao cs) (hg : w.grownBy w' row) (hx : ∀ x, row = some x → Typed w x u) (hn : t ≠ u) : LRow w' t ao cs := h.of_block fun b ht => hg.block b (tylt ht) fun q => typed_ne ht (hx b q.symm) hn rfl
theorem LRow.nil {w : World} {t : TypeId} {ao : Option Addr} : LRow w t ao [] := fun h => absurd rfl h
theorem LRow.i {w : World} {ao : Option Addr} {l : List Int} {t : TypeId} (h : LRow w t ao (ilc l)) : IRow w ao l.length (iOf l) := fun k hk => by
  obtain ⟨b, o, e, _, h2⟩ := h (fun q => by have := ilc_len l; rw [q] at this; simp at this; omega)
  exact ⟨b, o, e, h2 k _ (ilc_at hk)⟩
theorem LRow.n {w : World} {ao : Option Addr} {l : List En} {t : TypeId} (h : LRow w t ao (elc l)) : NRow w ao l.length (tOf l) (xOf l) := fun k hk => by
  obtain ⟨b, o, e, _, h2⟩ := h (fun q => by have := elc_len l; rw [q] at this; simp at this; omega)
  refine ⟨b, o, e, ?_⟩
  have := elc_at hk
  have h3 := h2 _ _ this.1
  have h4 := h2 _ _ this.2
  first
  | exact ⟨h3, h4⟩
  | exact ⟨h3, by rw [← Nat.add_assoc] at h4; exact h4⟩
/-- Where a server's lists lie. -/
structure NdS where
  lo : Option Addr
  lc : Nat
  vo : Option Addr
  vc : Nat
  no : Option Addr
  nc : Nat
  mo : Option Addr
  mc : Nat
abbrev ndL (n : Nd) (s : NdS) : List Value := [.int .i64 n.id, .int .i64 n.peers, .int .i64 n.term, .int .i64 n.vote, .slice s.lo n.log.length s.lc, .int .i64 n.role, .int .i64 n.commit, .slice s.vo n.votes.length s.vc, .slice s.no n.next.length s.nc, .slice s.mo n.mat.length s.mc]
abbrev ndV (n : Nd) (s : NdS) : Value := .agg #[.int .i64 n.id, .int .i64 n.peers, .int .i64 n.term, .int .i64 n.vote, .slice s.lo n.log.length s.lc, .int .i64 n.role, .int .i64 n.commit, .slice s.vo n.votes.length s.vc, .slice s.no n.next.length s.nc, .slice s.mo n.mat.length s.mc]
/-- A server's lists. -/
structure NdM (w : World) (n : Nd) (s : NdS) : Prop where
  l : LRow w 110 s.lo (elc n.log)
  v : LRow w 2 s.vo (ilc n.votes)
  x : LRow w 2 s.no (ilc n.next)
  m : LRow w 2 s.mo (ilc n.mat)
theorem NdM.next {w w' : World} {n : Nd} {s : NdS} (h : NdM w n s) (hb : Below w.heap.size w w') : NdM w' n s := ⟨h.l.next hb, h.v.next hb, h.x.next hb, h.m.next hb⟩
theorem NdM.below {w w' : World} {B : Nat} {n : Nd} {s : NdS} (h : NdM w n s) (hb : Below B w w') (hB : w.heap.size ≤ B) : NdM w' n s := h.next (hb.mono hB)
theorem NdM.gr {w w' : World} {n : Nd} {s : NdS} {row : Option Nat} {u : TypeId} (h : NdM w n s) (hg : w.grownBy w' row) (hx : ∀ x, row = some x → Typed w x u) (h1 : 110 ≠ u) (h2 : 2 ≠ u) : NdM w' n s := ⟨h.l.gr hg hx h1, h.v.gr hg hx h2, h.x.gr hg hx h2, h.m.gr hg hx h2⟩
/-- How much there is. -/
structure NdZ (n : Nd) (s : NdS) : Prop where
  l : n.log.length ≤ 1048576
  v : n.votes.length ≤ 1048576
  x : n.next.length ≤ 1048576
  m : n.mat.length ≤ 1048576
  lc : n.log.length ≤ s.lc
  vc : n.votes.length ≤ s.vc
  xc : n.next.length ≤ s.nc
  mc : n.mat.length ≤ s.mc
  tx : ∀ k, k < n.log.length → (xOf n.log k).size ≤ 1048576
theorem box_new (w : World) (l : List Value) (t : TypeId) : VHas (w.alloc (.cells l.toArray t)) w.heap.size t l.length (lf l) :=
  ⟨_, Go.Deep.blk_alloc_new _ _, by simp, fun j hj => by simp [lf, hj]⟩
/-- The box of a server. -/
abbrev NdB (w : World) (b : Nat) (n : Nd) (s : NdS) : Prop := VHas w b 51 10 (lf (ndL n s))
theorem ndB_new (w : World) (n : Nd) (s : NdS) : NdB (w.alloc (.cells (ndL n s).toArray 51)) w.heap.size n s := box_new w (ndL n s) 51
theorem exec_nd {o : Oper} {ev : Operand → Value} {x : Operand} {b : Nat} {W : World} {n : Nd} {s : NdS} (ho : o.op = .load 51 x) (hx : ev x = .pointer (some ⟨b, 0, none⟩)) (h : NdB W b n s) : (execOp ev o).run Tryd.prog W = .ok (.value (ndV n s)) W := by
  obtain ⟨c0, c1, c2, c3, c4, c5, c6, c7, c8, c9⟩ := h.c10
  simp [lf] at c0 c1 c2 c3 c4 c5 c6 c7 c8 c9
  unfold execOp
  simp [ho, hx, go_sem, c0, c1, c2, c3, c4, c5, c6, c7, c8, c9]
abbrev nd0 : Nd := ⟨0, 0, 0, 0, [], 0, 0, [], [], []⟩
abbrev ns0 : NdS := ⟨none, 0, none, 0, none, 0, none, 0⟩
theorem ndT {W : World} {b : Nat} {n : Nd} {s : NdS} (h : NdB W b n s) : ∀ x, some b = some x → Typed W x 51 := fun x e => by cases e; exact VHas.typed h
theorem gr_rb {w W W' : World} {b : Nat} (h : RB w W) (hg : W.grownBy W' (some b)) (hb : w.heap.size ≤ b) : RB w W' := below_row h hg (fun x e => by cases e; exact hb)
theorem GOwn.cap {w : World} {base : Nat} {t : TypeId} {size : Nat} {ao : Option Addr} {n cap : Nat} {f : Nat → Value} (h : GOwn w base t size ao n cap f) : n ≤ cap := by
  rcases h.2 with ⟨h2, h3⟩ | ⟨g', cap', cur, h2, _, _, h3, _⟩
  · omega
  · simp at h2; omega
theorem GOwn.lrow {w : World} {base : Nat} {t : TypeId} {size : Nat} {ao : Option Addr} {n cap : Nat} {cs : List Value} (h : GOwn w base t size ao n cap (lf cs)) (hl : cs.length = n * size) : LRow w t ao cs := fun hc => by
  have hp : 0 < n * size := by
    rw [← hl]
    exact List.length_pos_iff.2 hc
  obtain ⟨g, e, hv⟩ := h.trow hp
  refine ⟨g, 0, e, hv.typed, fun j v hj => ?_⟩
  have hlt : j < cs.length := by
    rcases Nat.lt_or_ge j cs.length with q | q
    · exact q
    · rw [List.getElem?_eq_none q] at hj; cases hj
  have := hv.cell (j := j) (by omega)
  rw [Nat.zero_add, this]
  simp [lf, hj]
theorem LRow.g {w : World} {t : TypeId} {ao : Option Addr} {cs : List Value} (h : LRow w t ao cs) {m : Nat} (hm : cs.length = m) : GRow w ao m (lf cs) := fun hp => by
  obtain ⟨b, o, e, _, hc⟩ := h (fun q => by rw [q] at hm; simp at hm; omega)
  refine ⟨b, o, e, fun j hj => ?_⟩
  have hlt : j < cs.length := by omega
  have : cs[j]? = some cs[j] := by simp [hlt]
  rw [hc j _ this]
  simp [lf, this]

end Go.Proofs.YticckgmkhgnmfaaDoor
