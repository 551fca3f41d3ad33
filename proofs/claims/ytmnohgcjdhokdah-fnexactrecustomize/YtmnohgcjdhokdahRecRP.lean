/-
  The region that copies four arguments, calls a Recustomize, and stores its map and its metric: all its 42 orders, as 24 states. Written by tools/mkrecr.py.
-/
import Derived.Test.YtmnohgcjdhokdahRgnP
import Derived.Test.YtmnohgcjdhokdahRecAP
import Derived.Test.YtmnohgcjdhokdahPack9
import Derived.Test.YtmnohgcjdhokdahPack10
set_option linter.unusedVariables false
set_option linter.unusedSimpArgs false
namespace Go.Proofs.Ytmnohgcjdhokdah
open Go.RowKit

set_option maxRecDepth 100000

theorem cf_toGraph (args : Array Value) (w : World) : Sem.run Try.prog (callFunc 20 args) w = .ok (.enter 20 args) w := by simp [go_sem]
theorem cf_toHier (args : Array Value) (w : World) : Sem.run Try.prog (callFunc 12 args) w = .ok (.enter 12 args) w := by simp [go_sem]
theorem cf_toMetric (args : Array Value) (w : World) : Sem.run Try.prog (callFunc 13 args) w = .ok (.enter 13 args) w := by simp [go_sem]
theorem cf_toArcS (args : Array Value) (w : World) : Sem.run Try.prog (callFunc 21 args) w = .ok (.enter 21 args) w := by simp [go_sem]
def rops (fc : FuncId) (q g : Nat) (t0 t1 t2 : TypeId) (pos : String) : Array Oper := #[
  { dst := some (q + 1), op := Op.load 42 (Operand.tmp 4), type := 42, pos := pos, after := #[], guard := none },
  { dst := some (q + 2), op := Op.call { callee := Callee.value (Operand.func 20), args := #[Operand.tmp (q + 1)], argTypes := #[42] }, type := 47, pos := pos, after := #[{ on := 0, ground := Ground.data }], guard := none },
  { dst := some (q + 3), op := Op.load 25 (Operand.tmp 5), type := 25, pos := pos, after := #[], guard := none },
  { dst := some (q + 4), op := Op.call { callee := Callee.value (Operand.func 12), args := #[Operand.tmp (q + 3)], argTypes := #[25] }, type := 33, pos := pos, after := #[{ on := 2, ground := Ground.data }, { on := 1, ground := Ground.chain }], guard := none },
  { dst := some (q + 5), op := Op.load 27 (Operand.tmp 6), type := 27, pos := pos, after := #[], guard := none },
  { dst := some (q + 6), op := Op.call { callee := Callee.value (Operand.func 13), args := #[Operand.tmp (q + 5)], argTypes := #[27] }, type := 35, pos := pos, after := #[{ on := 4, ground := Ground.data }, { on := 3, ground := Ground.chain }], guard := none },
  { dst := some (q + 7), op := Op.move (Operand.tmp 3), type := t0, pos := pos, after := #[], guard := none },
  { dst := some (q + 8), op := Op.call { callee := Callee.value (Operand.func 21), args := #[Operand.tmp (q + 7)], argTypes := #[t0] }, type := t1, pos := pos, after := #[{ on := 6, ground := Ground.data }, { on := 5, ground := Ground.chain }], guard := none },
  { dst := some (q + 9), op := Op.call { callee := Callee.value (Operand.func fc), args := #[Operand.tmp (q + 2), Operand.tmp (q + 4), Operand.tmp (q + 6), Operand.tmp (q + 8)], argTypes := #[47, 33, 35, t1] }, type := t2, pos := pos, after := #[{ on := 1, ground := Ground.data }, { on := 3, ground := Ground.data }, { on := 5, ground := Ground.data }, { on := 7, ground := Ground.data }, { on := 7, ground := Ground.chain }], guard := none },
  { dst := some q, op := Op.move (Operand.tmp (q + 9)), type := t2, pos := pos, after := #[{ on := 8, ground := Ground.data }], guard := none },
  { dst := some (q + 10), op := Op.extract (Operand.tmp q) 0, type := 47, pos := pos, after := #[{ on := 9, ground := Ground.data }], guard := none },
  { dst := some (q + 11), op := Op.extract (Operand.tmp q) 1, type := 35, pos := pos, after := #[{ on := 9, ground := Ground.data }, { on := 15, ground := Ground.gcOnly Departure.lateStores }], guard := none },
  { dst := some (q + 12), op := Op.extract (Operand.tmp q) 2, type := 4, pos := pos, after := #[{ on := 9, ground := Ground.data }, { on := 16, ground := Ground.gcOnly Departure.lateStores }], guard := none },
  { dst := some g, op := Op.alloc 47, type := 0, pos := pos, after := #[], guard := none },
  { dst := some (g + 1), op := Op.alloc 35, type := 0, pos := pos, after := #[], guard := none },
  { dst := none, op := Op.store 47 (Operand.tmp g) (Operand.tmp (q + 10)), type := 0, pos := pos, after := #[{ on := 13, ground := Ground.data }, { on := 10, ground := Ground.data }, { on := 8, ground := Ground.chain }, { on := 0, ground := Ground.phase }, { on := 1, ground := Ground.phase }, { on := 2, ground := Ground.phase }, { on := 3, ground := Ground.phase }, { on := 4, ground := Ground.phase }, { on := 5, ground := Ground.phase }, { on := 6, ground := Ground.phase }, { on := 7, ground := Ground.phase }, { on := 8, ground := Ground.phase }, { on := 9, ground := Ground.phase }, { on := 10, ground := Ground.phase }, { on := 11, ground := Ground.textOnly Departure.lateStores }, { on := 12, ground := Ground.textOnly Departure.lateStores }, { on := 13, ground := Ground.phase }, { on := 14, ground := Ground.phase }], guard := none },
  { dst := none, op := Op.store 35 (Operand.tmp (g + 1)) (Operand.tmp (q + 11)), type := 0, pos := pos, after := #[{ on := 14, ground := Ground.data }, { on := 11, ground := Ground.data }, { on := 15, ground := Ground.chain }, { on := 0, ground := Ground.phase }, { on := 1, ground := Ground.phase }, { on := 2, ground := Ground.phase }, { on := 3, ground := Ground.phase }, { on := 4, ground := Ground.phase }, { on := 5, ground := Ground.phase }, { on := 6, ground := Ground.phase }, { on := 7, ground := Ground.phase }, { on := 8, ground := Ground.phase }, { on := 9, ground := Ground.phase }, { on := 10, ground := Ground.phase }, { on := 11, ground := Ground.phase }, { on := 12, ground := Ground.textOnly Departure.lateStores }, { on := 13, ground := Ground.phase }, { on := 14, ground := Ground.phase }, { on := 15, ground := Ground.phase }], guard := none },
  { dst := some (g + 2), op := Op.assign (Operand.tmp (q + 12)), type := 4, pos := pos, after := #[{ on := 12, ground := Ground.data }, { on := 16, ground := Ground.chain }, { on := 0, ground := Ground.phase }, { on := 1, ground := Ground.phase }, { on := 2, ground := Ground.phase }, { on := 3, ground := Ground.phase }, { on := 4, ground := Ground.phase }, { on := 5, ground := Ground.phase }, { on := 6, ground := Ground.phase }, { on := 7, ground := Ground.phase }, { on := 8, ground := Ground.phase }, { on := 9, ground := Ground.phase }, { on := 10, ground := Ground.phase }, { on := 11, ground := Ground.phase }, { on := 12, ground := Ground.phase }, { on := 13, ground := Ground.phase }, { on := 14, ground := Ground.phase }, { on := 15, ground := Ground.phase }, { on := 16, ground := Ground.phase }], guard := none }]
structure RIn where
  (p : Int) (ao : Option Addr) (n cap : Nat) (F T G : Nat → Int)
  (po : Option Addr) (k pcap : Nat) (P : Nat → Int) (eo : Option Addr) (m ecap : Nat) (L H : Nat → Int)
  (uo : Option Addr) (u ucap : Nat) (U : Nat → Int) (vo : Option Addr) (v vcap : Nat) (V : Nat → Int)
  (so : Option Addr) (s scap : Nat) (A B C : Nat → Int)
structure ROut where
  (p : Int) (n : Nat) (H : Nat → Int) (N : Nat) (CU CD : Nat → Int) (ok : Bool)
structure RPar where
  (bG bX b0 b1 c1 b2 c2 : Nat) (va : Option Addr) (ao : Option Addr) (cap : Nat) (xo : Option Addr) (xc : Nat) (yo : Option Addr) (yc d x y : Nat)
/-- How far the region has come: i calls are done, the map's box is there (f), the metric's box is there (h). -/
structure RSt (D : RIn) (O : ROut) (B0 : World) (a : Act) (q g : Nat) (i : Nat) (f h : Bool) (x : Act) (X : World) (R : RPar) : Prop where
  bel : Below B0.heap.size B0 X
  sz : x.tmps.size = a.tmps.size
  df : x.defers = a.defers
  old : ∀ j, (j < q ∨ q + 12 < j) → j ≠ g → j ≠ g + 1 → j ≠ g + 2 → x.eval (.tmp j) = a.eval (.tmp j)
  l0 : x.eval (.tmp (q + 1)) = .agg #[.int .i64 D.p, .slice D.ao D.n D.cap]
  l1 : x.eval (.tmp (q + 3)) = .agg #[.slice D.po D.k D.pcap, .slice D.eo D.m D.ecap]
  l2 : x.eval (.tmp (q + 5)) = .agg #[.slice D.uo D.u D.ucap, .slice D.vo D.v D.vcap]
  l3 : x.eval (.tmp (q + 7)) = .slice D.so D.s D.scap
  r0 : 0 < i → x.eval (.tmp (q + 2)) = .agg #[.int .i64 D.p, .slice (some ⟨R.b0, 0, none⟩) D.n D.n] ∧ Row X (some ⟨R.b0, 0, none⟩) D.n D.F D.T D.G
  r1 : 1 < i → x.eval (.tmp (q + 4)) = .agg #[.slice (some ⟨R.b1, 0, none⟩) D.k D.k, .slice (some ⟨R.c1, 0, none⟩) D.m D.m] ∧ IRow X (some ⟨R.b1, 0, none⟩) D.k D.P ∧ ERow X (some ⟨R.c1, 0, none⟩) D.m D.L D.H
  r2 : 2 < i → x.eval (.tmp (q + 6)) = .agg #[.slice (some ⟨R.b2, 0, none⟩) D.u D.u, .slice (some ⟨R.c2, 0, none⟩) D.v D.v] ∧ IRow X (some ⟨R.b2, 0, none⟩) D.u D.U ∧ IRow X (some ⟨R.c2, 0, none⟩) D.v D.V
  r3 : 3 < i → x.eval (.tmp (q + 8)) = .slice R.va D.s D.s ∧ Row X R.va D.s D.A D.B D.C
  r4 : 4 < i → x.eval (.tmp (q + 9)) = .tuple #[.agg #[.int .i64 O.p, .slice R.ao O.n R.cap], .agg #[.slice R.xo O.N R.xc, .slice R.yo O.N R.yc], .bool O.ok] ∧ (0 < O.n → R.ao = some ⟨R.d, 0, none⟩) ∧ (0 < O.n → Has X R.d O.n (ar D.F D.T O.H)) ∧ (0 < O.N → R.xo = some ⟨R.x, 0, none⟩) ∧ (0 < O.N → IHas X R.x O.N O.CU) ∧ (0 < O.N → R.yo = some ⟨R.y, 0, none⟩) ∧ (0 < O.N → IHas X R.y O.N O.CD) ∧ (B0.heap.size ≤ R.d ∧ R.d < X.heap.size) ∧ (B0.heap.size ≤ R.x ∧ R.x < X.heap.size) ∧ (B0.heap.size ≤ R.y ∧ R.y < X.heap.size)
  r5 : 5 < i → x.eval (.tmp (q + 10)) = .agg #[.int .i64 O.p, .slice R.ao O.n R.cap] ∧ x.eval (.tmp (q + 11)) = .agg #[.slice R.xo O.N R.xc, .slice R.yo O.N R.yc] ∧ x.eval (.tmp (q + 12)) = .bool O.ok
  gf : f = true → x.eval (.tmp g) = .pointer (some ⟨R.bG, 0, none⟩) ∧ B0.heap.size ≤ R.bG ∧ X.cell? ⟨R.bG, 0, none⟩ = some (.int .i64 0) ∧ X.cell? ⟨R.bG, 1, none⟩ = some (.slice none 0 0) ∧ (∀ o, X.frozen? ⟨R.bG, o, none⟩ = false) ∧ (4 < i → R.d ≠ R.bG ∧ R.x ≠ R.bG ∧ R.y ≠ R.bG)
  gh : h = true → x.eval (.tmp (g + 1)) = .pointer (some ⟨R.bX, 0, none⟩) ∧ B0.heap.size ≤ R.bX ∧ X.cell? ⟨R.bX, 0, none⟩ = some (.slice none 0 0) ∧ X.cell? ⟨R.bX, 1, none⟩ = some (.slice none 0 0) ∧ (∀ o, X.frozen? ⟨R.bX, o, none⟩ = false) ∧ (4 < i → R.d ≠ R.bX ∧ R.x ≠ R.bX ∧ R.y ≠ R.bX)

section
variable {D : RIn} {O : ROut} {B0 : World} {a : Act} {q g : Nat} {i : Nat} {f h : Bool} {x : Act} {X X' : World} {R : RPar}
theorem RSt.next (S : RSt D O B0 a q g i f h x X R) (hb : Below X.heap.size X X') : RSt D O B0 a q g i f h x X' R := by
  have hz := hb.size
  refine ⟨below_next S.bel (Nat.le_refl _) hb, S.sz, S.df, S.old, S.l0, S.l1, S.l2, S.l3, fun c => ?_, fun c => ?_, fun c => ?_, fun c => ?_, fun c => ?_, S.r5, fun c => ?_, fun c => ?_⟩
  · exact ⟨(S.r0 c).1, (S.r0 c).2.below hb (Nat.le_refl _)⟩
  · exact ⟨(S.r1 c).1, (S.r1 c).2.1.below hb (Nat.le_refl _), (S.r1 c).2.2.below hb (Nat.le_refl _)⟩
  · exact ⟨(S.r2 c).1, (S.r2 c).2.1.below hb (Nat.le_refl _), (S.r2 c).2.2.below hb (Nat.le_refl _)⟩
  · exact ⟨(S.r3 c).1, (S.r3 c).2.below hb (Nat.le_refl _)⟩
  · obtain ⟨e0, e1, e2, e3, e4, e5, e6, e7, e8, e9⟩ := S.r4 c
    exact ⟨e0, e1, fun z => (e2 z).below hb e7.2, e3, fun z => (e4 z).below hb e8.2, e5, fun z => (e6 z).below hb e9.2, ⟨e7.1, by omega⟩, ⟨e8.1, by omega⟩, ⟨e9.1, by omega⟩⟩
  · obtain ⟨e0, e1, e2, e3, e4, e5⟩ := S.gf c
    exact ⟨e0, e1, keep_cell hb (Nat.le_refl _) e2, keep_cell hb (Nat.le_refl _) e3, keep_fz hb e2 e4, e5⟩
  · obtain ⟨e0, e1, e2, e3, e4, e5⟩ := S.gh c
    exact ⟨e0, e1, keep_cell hb (Nat.le_refl _) e2, keep_cell hb (Nat.le_refl _) e3, keep_fz hb e2 e4, e5⟩

theorem RSt.c0 (S : RSt D O B0 a q g 0 f h x X R) (hq : q + 12 < a.tmps.size) (hg : g + 2 < q) {b : Nat} (hr : Row X (some ⟨b, 0, none⟩) D.n D.F D.T D.G) :
    RSt D O B0 a q g 1 f h (x.put (some (q + 2)) (.agg #[.int .i64 D.p, .slice (some ⟨b, 0, none⟩) D.n D.n])) X { R with b0 := b } := by
  exact ⟨S.bel, put_size.trans S.sz, S.df, fun j c0 c1 c2 c3 => by rw [put_ne (by omega)]; exact S.old j c0 c1 c2 c3, by rw [put_ne (by omega)]; exact S.l0, by rw [put_ne (by omega)]; exact S.l1, by rw [put_ne (by omega)]; exact S.l2, by rw [put_ne (by omega)]; exact S.l3, fun _ => ⟨put_same (by have := S.sz; omega), hr⟩, fun c => absurd c (by omega), fun c => absurd c (by omega), fun c => absurd c (by omega), fun c => absurd c (by omega), fun c => absurd c (by omega), fun c => ⟨by rw [put_ne (by omega)]; exact (S.gf c).1, (S.gf c).2.1, (S.gf c).2.2.1, (S.gf c).2.2.2.1, (S.gf c).2.2.2.2.1, fun c4 => absurd c4 (by omega)⟩, fun c => ⟨by rw [put_ne (by omega)]; exact (S.gh c).1, (S.gh c).2.1, (S.gh c).2.2.1, (S.gh c).2.2.2.1, (S.gh c).2.2.2.2.1, fun c4 => absurd c4 (by omega)⟩⟩

theorem RSt.c1 (S : RSt D O B0 a q g 1 f h x X R) (hq : q + 12 < a.tmps.size) (hg : g + 2 < q) {b c : Nat} (hr : IRow X (some ⟨b, 0, none⟩) D.k D.P) (he : ERow X (some ⟨c, 0, none⟩) D.m D.L D.H) :
    RSt D O B0 a q g 2 f h (x.put (some (q + 4)) (.agg #[.slice (some ⟨b, 0, none⟩) D.k D.k, .slice (some ⟨c, 0, none⟩) D.m D.m])) X { R with b1 := b, c1 := c } := by
  exact ⟨S.bel, put_size.trans S.sz, S.df, fun j c0 c1 c2 c3 => by rw [put_ne (by omega)]; exact S.old j c0 c1 c2 c3, by rw [put_ne (by omega)]; exact S.l0, by rw [put_ne (by omega)]; exact S.l1, by rw [put_ne (by omega)]; exact S.l2, by rw [put_ne (by omega)]; exact S.l3, fun c => ⟨by rw [put_ne (by omega)]; exact (S.r0 (by omega)).1, (S.r0 (by omega)).2⟩, fun _ => ⟨put_same (by have := S.sz; omega), hr, he⟩, fun c => absurd c (by omega), fun c => absurd c (by omega), fun c => absurd c (by omega), fun c => absurd c (by omega), fun c => ⟨by rw [put_ne (by omega)]; exact (S.gf c).1, (S.gf c).2.1, (S.gf c).2.2.1, (S.gf c).2.2.2.1, (S.gf c).2.2.2.2.1, fun c4 => absurd c4 (by omega)⟩, fun c => ⟨by rw [put_ne (by omega)]; exact (S.gh c).1, (S.gh c).2.1, (S.gh c).2.2.1, (S.gh c).2.2.2.1, (S.gh c).2.2.2.2.1, fun c4 => absurd c4 (by omega)⟩⟩

theorem RSt.c2 (S : RSt D O B0 a q g 2 f h x X R) (hq : q + 12 < a.tmps.size) (hg : g + 2 < q) {b c : Nat} (hr : IRow X (some ⟨b, 0, none⟩) D.u D.U) (he : IRow X (some ⟨c, 0, none⟩) D.v D.V) :
    RSt D O B0 a q g 3 f h (x.put (some (q + 6)) (.agg #[.slice (some ⟨b, 0, none⟩) D.u D.u, .slice (some ⟨c, 0, none⟩) D.v D.v])) X { R with b2 := b, c2 := c } := by
  exact ⟨S.bel, put_size.trans S.sz, S.df, fun j c0 c1 c2 c3 => by rw [put_ne (by omega)]; exact S.old j c0 c1 c2 c3, by rw [put_ne (by omega)]; exact S.l0, by rw [put_ne (by omega)]; exact S.l1, by rw [put_ne (by omega)]; exact S.l2, by rw [put_ne (by omega)]; exact S.l3, fun c => ⟨by rw [put_ne (by omega)]; exact (S.r0 (by omega)).1, (S.r0 (by omega)).2⟩, fun c => ⟨by rw [put_ne (by omega)]; exact (S.r1 (by omega)).1, (S.r1 (by omega)).2⟩, fun _ => ⟨put_same (by have := S.sz; omega), hr, he⟩, fun c => absurd c (by omega), fun c => absurd c (by omega), fun c => absurd c (by omega), fun c => ⟨by rw [put_ne (by omega)]; exact (S.gf c).1, (S.gf c).2.1, (S.gf c).2.2.1, (S.gf c).2.2.2.1, (S.gf c).2.2.2.2.1, fun c4 => absurd c4 (by omega)⟩, fun c => ⟨by rw [put_ne (by omega)]; exact (S.gh c).1, (S.gh c).2.1, (S.gh c).2.2.1, (S.gh c).2.2.2.1, (S.gh c).2.2.2.2.1, fun c4 => absurd c4 (by omega)⟩⟩

theorem RSt.c3 (S : RSt D O B0 a q g 3 f h x X R) (hq : q + 12 < a.tmps.size) (hg : g + 2 < q) {va : Option Addr} (hr : Row X va D.s D.A D.B D.C) :
    RSt D O B0 a q g 4 f h (x.put (some (q + 8)) (.slice va D.s D.s)) X { R with va := va } := by
  exact ⟨S.bel, put_size.trans S.sz, S.df, fun j c0 c1 c2 c3 => by rw [put_ne (by omega)]; exact S.old j c0 c1 c2 c3, by rw [put_ne (by omega)]; exact S.l0, by rw [put_ne (by omega)]; exact S.l1, by rw [put_ne (by omega)]; exact S.l2, by rw [put_ne (by omega)]; exact S.l3, fun c => ⟨by rw [put_ne (by omega)]; exact (S.r0 (by omega)).1, (S.r0 (by omega)).2⟩, fun c => ⟨by rw [put_ne (by omega)]; exact (S.r1 (by omega)).1, (S.r1 (by omega)).2⟩, fun c => ⟨by rw [put_ne (by omega)]; exact (S.r2 (by omega)).1, (S.r2 (by omega)).2⟩, fun _ => ⟨put_same (by have := S.sz; omega), hr⟩, fun c => absurd c (by omega), fun c => absurd c (by omega), fun c => ⟨by rw [put_ne (by omega)]; exact (S.gf c).1, (S.gf c).2.1, (S.gf c).2.2.1, (S.gf c).2.2.2.1, (S.gf c).2.2.2.2.1, fun c4 => absurd c4 (by omega)⟩, fun c => ⟨by rw [put_ne (by omega)]; exact (S.gh c).1, (S.gh c).2.1, (S.gh c).2.2.1, (S.gh c).2.2.2.1, (S.gh c).2.2.2.2.1, fun c4 => absurd c4 (by omega)⟩⟩

theorem RSt.c4 (S : RSt D O B0 a q g 4 f h x X R) (hq : q + 12 < a.tmps.size) (hg : g + 2 < q) {B1 d bb cc cap xc yc : Nat} {ao xo yo : Option Addr} (e1 : 0 < O.n → ao = some ⟨d, 0, none⟩) (e2 : 0 < O.n → Has X d O.n (ar D.F D.T O.H)) (e3 : 0 < O.N → xo = some ⟨bb, 0, none⟩) (e4 : 0 < O.N → IHas X bb O.N O.CU) (e5 : 0 < O.N → yo = some ⟨cc, 0, none⟩) (e6 : 0 < O.N → IHas X cc O.N O.CD) (e7 : B1 ≤ d ∧ d < X.heap.size) (e8 : B1 ≤ bb ∧ bb < X.heap.size) (e9 : B1 ≤ cc ∧ cc < X.heap.size) (hB1 : B0.heap.size ≤ B1) (hfB : f = true → R.bG < B1) (hhB : h = true → R.bX < B1) :
    RSt D O B0 a q g 5 f h (x.put (some (q + 9)) (.tuple #[.agg #[.int .i64 O.p, .slice ao O.n cap], .agg #[.slice xo O.N xc, .slice yo O.N yc], .bool O.ok])) X { R with ao := ao, cap := cap, xo := xo, xc := xc, yo := yo, yc := yc, d := d, x := bb, y := cc } := by
  exact ⟨S.bel, put_size.trans S.sz, S.df, fun j c0 c1 c2 c3 => by rw [put_ne (by omega)]; exact S.old j c0 c1 c2 c3, by rw [put_ne (by omega)]; exact S.l0, by rw [put_ne (by omega)]; exact S.l1, by rw [put_ne (by omega)]; exact S.l2, by rw [put_ne (by omega)]; exact S.l3, fun c => ⟨by rw [put_ne (by omega)]; exact (S.r0 (by omega)).1, (S.r0 (by omega)).2⟩, fun c => ⟨by rw [put_ne (by omega)]; exact (S.r1 (by omega)).1, (S.r1 (by omega)).2⟩, fun c => ⟨by rw [put_ne (by omega)]; exact (S.r2 (by omega)).1, (S.r2 (by omega)).2⟩, fun c => ⟨by rw [put_ne (by omega)]; exact (S.r3 (by omega)).1, (S.r3 (by omega)).2⟩, fun _ => ⟨put_same (by have := S.sz; omega), e1, e2, e3, e4, e5, e6, ⟨Nat.le_trans hB1 e7.1, e7.2⟩, ⟨Nat.le_trans hB1 e8.1, e8.2⟩, ⟨Nat.le_trans hB1 e9.1, e9.2⟩⟩, fun c => absurd c (by omega), fun c => ⟨by rw [put_ne (by omega)]; exact (S.gf c).1, (S.gf c).2.1, (S.gf c).2.2.1, (S.gf c).2.2.2.1, (S.gf c).2.2.2.2.1, fun _ => by have := hfB c; show d ≠ R.bG ∧ bb ≠ R.bG ∧ cc ≠ R.bG; omega⟩, fun c => ⟨by rw [put_ne (by omega)]; exact (S.gh c).1, (S.gh c).2.1, (S.gh c).2.2.1, (S.gh c).2.2.2.1, (S.gh c).2.2.2.2.1, fun _ => by have := hhB c; show d ≠ R.bX ∧ bb ≠ R.bX ∧ cc ≠ R.bX; omega⟩⟩

theorem RSt.e9 (S : RSt D O B0 a q g 5 f h x X R) (hq : q + 12 < a.tmps.size) (hg : g + 2 < q) {v0 : Value} :
    RSt D O B0 a q g 5 f h (x.put (some (q)) v0) X R := by
  exact ⟨S.bel, put_size.trans S.sz, S.df, fun j c0 c1 c2 c3 => by rw [put_ne (by omega)]; exact S.old j c0 c1 c2 c3, by rw [put_ne (by omega)]; exact S.l0, by rw [put_ne (by omega)]; exact S.l1, by rw [put_ne (by omega)]; exact S.l2, by rw [put_ne (by omega)]; exact S.l3, fun c => ⟨by rw [put_ne (by omega)]; exact (S.r0 (by omega)).1, (S.r0 (by omega)).2⟩, fun c => ⟨by rw [put_ne (by omega)]; exact (S.r1 (by omega)).1, (S.r1 (by omega)).2⟩, fun c => ⟨by rw [put_ne (by omega)]; exact (S.r2 (by omega)).1, (S.r2 (by omega)).2⟩, fun c => ⟨by rw [put_ne (by omega)]; exact (S.r3 (by omega)).1, (S.r3 (by omega)).2⟩, fun c => ⟨by rw [put_ne (by omega)]; exact (S.r4 (by omega)).1, (S.r4 (by omega)).2⟩, fun c => absurd c (by omega), fun c => ⟨by rw [put_ne (by omega)]; exact (S.gf c).1, (S.gf c).2.1, (S.gf c).2.2.1, (S.gf c).2.2.2.1, (S.gf c).2.2.2.2.1, fun c4 => (S.gf c).2.2.2.2.2 (by omega)⟩, fun c => ⟨by rw [put_ne (by omega)]; exact (S.gh c).1, (S.gh c).2.1, (S.gh c).2.2.1, (S.gh c).2.2.2.1, (S.gh c).2.2.2.2.1, fun c4 => (S.gh c).2.2.2.2.2 (by omega)⟩⟩

theorem RSt.e10 (S : RSt D O B0 a q g 5 f h x X R) (hq : q + 12 < a.tmps.size) (hg : g + 2 < q) {v0 : Value} :
    RSt D O B0 a q g 5 f h (x.put (some (q + 10)) v0) X R := by
  exact ⟨S.bel, put_size.trans S.sz, S.df, fun j c0 c1 c2 c3 => by rw [put_ne (by omega)]; exact S.old j c0 c1 c2 c3, by rw [put_ne (by omega)]; exact S.l0, by rw [put_ne (by omega)]; exact S.l1, by rw [put_ne (by omega)]; exact S.l2, by rw [put_ne (by omega)]; exact S.l3, fun c => ⟨by rw [put_ne (by omega)]; exact (S.r0 (by omega)).1, (S.r0 (by omega)).2⟩, fun c => ⟨by rw [put_ne (by omega)]; exact (S.r1 (by omega)).1, (S.r1 (by omega)).2⟩, fun c => ⟨by rw [put_ne (by omega)]; exact (S.r2 (by omega)).1, (S.r2 (by omega)).2⟩, fun c => ⟨by rw [put_ne (by omega)]; exact (S.r3 (by omega)).1, (S.r3 (by omega)).2⟩, fun c => ⟨by rw [put_ne (by omega)]; exact (S.r4 (by omega)).1, (S.r4 (by omega)).2⟩, fun c => absurd c (by omega), fun c => ⟨by rw [put_ne (by omega)]; exact (S.gf c).1, (S.gf c).2.1, (S.gf c).2.2.1, (S.gf c).2.2.2.1, (S.gf c).2.2.2.2.1, fun c4 => (S.gf c).2.2.2.2.2 (by omega)⟩, fun c => ⟨by rw [put_ne (by omega)]; exact (S.gh c).1, (S.gh c).2.1, (S.gh c).2.2.1, (S.gh c).2.2.2.1, (S.gh c).2.2.2.2.1, fun c4 => (S.gh c).2.2.2.2.2 (by omega)⟩⟩

theorem RSt.e11 (S : RSt D O B0 a q g 5 f h x X R) (hq : q + 12 < a.tmps.size) (hg : g + 2 < q) {v0 : Value} :
    RSt D O B0 a q g 5 f h (x.put (some (q + 11)) v0) X R := by
  exact ⟨S.bel, put_size.trans S.sz, S.df, fun j c0 c1 c2 c3 => by rw [put_ne (by omega)]; exact S.old j c0 c1 c2 c3, by rw [put_ne (by omega)]; exact S.l0, by rw [put_ne (by omega)]; exact S.l1, by rw [put_ne (by omega)]; exact S.l2, by rw [put_ne (by omega)]; exact S.l3, fun c => ⟨by rw [put_ne (by omega)]; exact (S.r0 (by omega)).1, (S.r0 (by omega)).2⟩, fun c => ⟨by rw [put_ne (by omega)]; exact (S.r1 (by omega)).1, (S.r1 (by omega)).2⟩, fun c => ⟨by rw [put_ne (by omega)]; exact (S.r2 (by omega)).1, (S.r2 (by omega)).2⟩, fun c => ⟨by rw [put_ne (by omega)]; exact (S.r3 (by omega)).1, (S.r3 (by omega)).2⟩, fun c => ⟨by rw [put_ne (by omega)]; exact (S.r4 (by omega)).1, (S.r4 (by omega)).2⟩, fun c => absurd c (by omega), fun c => ⟨by rw [put_ne (by omega)]; exact (S.gf c).1, (S.gf c).2.1, (S.gf c).2.2.1, (S.gf c).2.2.2.1, (S.gf c).2.2.2.2.1, fun c4 => (S.gf c).2.2.2.2.2 (by omega)⟩, fun c => ⟨by rw [put_ne (by omega)]; exact (S.gh c).1, (S.gh c).2.1, (S.gh c).2.2.1, (S.gh c).2.2.2.1, (S.gh c).2.2.2.2.1, fun c4 => (S.gh c).2.2.2.2.2 (by omega)⟩⟩

theorem RSt.e12 (S : RSt D O B0 a q g 5 f h x X R) (hq : q + 12 < a.tmps.size) (hg : g + 2 < q) {v0 : Value} :
    RSt D O B0 a q g 5 f h (x.put (some (q + 12)) v0) X R := by
  exact ⟨S.bel, put_size.trans S.sz, S.df, fun j c0 c1 c2 c3 => by rw [put_ne (by omega)]; exact S.old j c0 c1 c2 c3, by rw [put_ne (by omega)]; exact S.l0, by rw [put_ne (by omega)]; exact S.l1, by rw [put_ne (by omega)]; exact S.l2, by rw [put_ne (by omega)]; exact S.l3, fun c => ⟨by rw [put_ne (by omega)]; exact (S.r0 (by omega)).1, (S.r0 (by omega)).2⟩, fun c => ⟨by rw [put_ne (by omega)]; exact (S.r1 (by omega)).1, (S.r1 (by omega)).2⟩, fun c => ⟨by rw [put_ne (by omega)]; exact (S.r2 (by omega)).1, (S.r2 (by omega)).2⟩, fun c => ⟨by rw [put_ne (by omega)]; exact (S.r3 (by omega)).1, (S.r3 (by omega)).2⟩, fun c => ⟨by rw [put_ne (by omega)]; exact (S.r4 (by omega)).1, (S.r4 (by omega)).2⟩, fun c => absurd c (by omega), fun c => ⟨by rw [put_ne (by omega)]; exact (S.gf c).1, (S.gf c).2.1, (S.gf c).2.2.1, (S.gf c).2.2.2.1, (S.gf c).2.2.2.2.1, fun c4 => (S.gf c).2.2.2.2.2 (by omega)⟩, fun c => ⟨by rw [put_ne (by omega)]; exact (S.gh c).1, (S.gh c).2.1, (S.gh c).2.2.1, (S.gh c).2.2.2.1, (S.gh c).2.2.2.2.1, fun c4 => (S.gh c).2.2.2.2.2 (by omega)⟩⟩

theorem RSt.c5 (S : RSt D O B0 a q g 5 f h x X R) (k0 : x.eval (.tmp (q + 10)) = .agg #[.int .i64 O.p, .slice R.ao O.n R.cap]) (k1 : x.eval (.tmp (q + 11)) = .agg #[.slice R.xo O.N R.xc, .slice R.yo O.N R.yc]) (k2 : x.eval (.tmp (q + 12)) = .bool O.ok) : RSt D O B0 a q g 6 f h x X R :=
  ⟨S.bel, S.sz, S.df, S.old, S.l0, S.l1, S.l2, S.l3, fun _ => S.r0 (by omega), fun _ => S.r1 (by omega), fun _ => S.r2 (by omega), fun _ => S.r3 (by omega), fun _ => S.r4 (by omega), fun _ => ⟨k0, k1, k2⟩, fun c => ⟨(S.gf c).1, (S.gf c).2.1, (S.gf c).2.2.1, (S.gf c).2.2.2.1, (S.gf c).2.2.2.2.1, fun _ => (S.gf c).2.2.2.2.2 (by omega)⟩, fun c => ⟨(S.gh c).1, (S.gh c).2.1, (S.gh c).2.2.1, (S.gh c).2.2.2.1, (S.gh c).2.2.2.2.1, fun _ => (S.gh c).2.2.2.2.2 (by omega)⟩⟩

theorem RSt.aG (S : RSt D O B0 a q g i false h x X R) (hq : q + 12 < a.tmps.size) (hg : g + 2 < q) {b : Nat} (e1 : B0.heap.size ≤ b) (e2 : X.cell? ⟨b, 0, none⟩ = some (.int .i64 0)) (e3 : X.cell? ⟨b, 1, none⟩ = some (.slice none 0 0)) (e4 : ∀ o, X.frozen? ⟨b, o, none⟩ = false) (e5 : 4 < i → R.d ≠ b ∧ R.x ≠ b ∧ R.y ≠ b) :
    RSt D O B0 a q g i true h (x.put (some (g)) (.pointer (some ⟨b, 0, none⟩))) X { R with bG := b } := by
  exact ⟨S.bel, put_size.trans S.sz, S.df, fun j c0 c1 c2 c3 => by rw [put_ne (by omega)]; exact S.old j c0 c1 c2 c3, by rw [put_ne (by omega)]; exact S.l0, by rw [put_ne (by omega)]; exact S.l1, by rw [put_ne (by omega)]; exact S.l2, by rw [put_ne (by omega)]; exact S.l3, fun c => ⟨by rw [put_ne (by omega)]; exact (S.r0 (by omega)).1, (S.r0 (by omega)).2⟩, fun c => ⟨by rw [put_ne (by omega)]; exact (S.r1 (by omega)).1, (S.r1 (by omega)).2⟩, fun c => ⟨by rw [put_ne (by omega)]; exact (S.r2 (by omega)).1, (S.r2 (by omega)).2⟩, fun c => ⟨by rw [put_ne (by omega)]; exact (S.r3 (by omega)).1, (S.r3 (by omega)).2⟩, fun c => ⟨by rw [put_ne (by omega)]; exact (S.r4 (by omega)).1, (S.r4 (by omega)).2⟩, fun c => ⟨by rw [put_ne (by omega)]; exact (S.r5 (by omega)).1, by rw [put_ne (by omega)]; exact (S.r5 (by omega)).2.1, by rw [put_ne (by omega)]; exact (S.r5 (by omega)).2.2⟩, fun _ => ⟨put_same (by have := S.sz; omega), e1, e2, e3, e4, e5⟩, fun c => ⟨by rw [put_ne (by omega)]; exact (S.gh c).1, (S.gh c).2⟩⟩

theorem RSt.aX (S : RSt D O B0 a q g i f false x X R) (hq : q + 12 < a.tmps.size) (hg : g + 2 < q) {b : Nat} (e1 : B0.heap.size ≤ b) (e2 : X.cell? ⟨b, 0, none⟩ = some (.slice none 0 0)) (e3 : X.cell? ⟨b, 1, none⟩ = some (.slice none 0 0)) (e4 : ∀ o, X.frozen? ⟨b, o, none⟩ = false) (e5 : 4 < i → R.d ≠ b ∧ R.x ≠ b ∧ R.y ≠ b) :
    RSt D O B0 a q g i f true (x.put (some (g + 1)) (.pointer (some ⟨b, 0, none⟩))) X { R with bX := b } := by
  exact ⟨S.bel, put_size.trans S.sz, S.df, fun j c0 c1 c2 c3 => by rw [put_ne (by omega)]; exact S.old j c0 c1 c2 c3, by rw [put_ne (by omega)]; exact S.l0, by rw [put_ne (by omega)]; exact S.l1, by rw [put_ne (by omega)]; exact S.l2, by rw [put_ne (by omega)]; exact S.l3, fun c => ⟨by rw [put_ne (by omega)]; exact (S.r0 (by omega)).1, (S.r0 (by omega)).2⟩, fun c => ⟨by rw [put_ne (by omega)]; exact (S.r1 (by omega)).1, (S.r1 (by omega)).2⟩, fun c => ⟨by rw [put_ne (by omega)]; exact (S.r2 (by omega)).1, (S.r2 (by omega)).2⟩, fun c => ⟨by rw [put_ne (by omega)]; exact (S.r3 (by omega)).1, (S.r3 (by omega)).2⟩, fun c => ⟨by rw [put_ne (by omega)]; exact (S.r4 (by omega)).1, (S.r4 (by omega)).2⟩, fun c => ⟨by rw [put_ne (by omega)]; exact (S.r5 (by omega)).1, by rw [put_ne (by omega)]; exact (S.r5 (by omega)).2.1, by rw [put_ne (by omega)]; exact (S.r5 (by omega)).2.2⟩, fun c => ⟨by rw [put_ne (by omega)]; exact (S.gf c).1, (S.gf c).2⟩, fun _ => ⟨put_same (by have := S.sz; omega), e1, e2, e3, e4, e5⟩⟩

end

def frees : List (Array Bool × Nat) := [(#[false, false, false, false, false, false, false, false, false, false, false, false, false, false, false, false, false, false], 0), (#[true, false, false, false, false, false, false, false, false, false, false, false, false, false, false, false, false, false], 2), (#[true, false, true, false, false, false, false, false, false, false, false, false, false, false, false, false, false, false], 4), (#[true, false, true, false, true, false, false, false, false, false, false, false, false, false, false, false, false, false], 6), (#[true, true, true, true, true, true, true, true, true, false, false, false, false, true, true, false, false, false], 9), (#[true, true, true, true, true, true, true, true, true, true, false, false, false, true, true, false, false, false], 10), (#[true, true, true, true, true, true, true, true, true, true, true, false, false, true, true, false, false, false], 11), (#[true, true, true, true, true, true, true, true, true, true, true, true, false, true, true, false, false, false], 12), (#[true, true, true, true, true, true, true, true, true, false, false, false, false, true, false, false, false, false], 9), (#[true, true, true, true, true, true, true, true, true, true, false, false, false, true, false, false, false, false], 10), (#[true, true, true, true, true, true, true, true, true, true, true, false, false, true, false, false, false, false], 11), (#[true, true, true, true, true, true, true, true, true, true, true, true, false, true, false, false, false, false], 12), (#[true, true, true, true, true, true, true, true, true, false, false, false, false, false, true, false, false, false], 9), (#[true, true, true, true, true, true, true, true, true, true, false, false, false, false, true, false, false, false], 10), (#[true, true, true, true, true, true, true, true, true, true, true, false, false, false, true, false, false, false], 11), (#[true, true, true, true, true, true, true, true, true, true, true, true, false, false, true, false, false, false], 12), (#[true, true, true, true, true, true, true, true, true, false, false, false, false, false, false, false, false, false], 9), (#[true, true, true, true, true, true, true, true, true, true, false, false, false, false, false, false, false, false], 10), (#[true, true, true, true, true, true, true, true, true, true, true, false, false, false, false, false, false, false], 11), (#[true, true, true, true, true, true, true, true, true, true, true, true, false, false, false, false, false, false], 12)]
theorem free_at {ops : Array Oper} (h : (frees.all fun t => Region.free .any ops t.1 t.2) = true) (k : Nat) {l : Array Bool} {i : Nat} (hk : frees[k]? = some (l, i)) : Region.free .any ops l i = true := by
  have := List.all_eq_true.1 h (l, i) (List.mem_of_getElem? hk)
  exact this
theorem put_defers {a : Act} {i : Option Tmp} {v : Value} : (a.put i v).defers = a.defers := by cases i <;> rfl
theorem put_or {x A : Act} {i j : Nat} {v : Value} (hi : i < A.tmps.size) (h1 : j = i → x.eval (.tmp j) = v) (h2 : j ≠ i → x.eval (.tmp j) = A.eval (.tmp j)) : x.eval (.tmp j) = (A.put (some i) v).eval (.tmp j) := by
  by_cases c : j = i
  · rw [h1 c, c]
    exact (put_same hi).symm
  · exact (h2 c).trans (put_ne c).symm
/-- The frame behind the region. -/
def rfin (a : Act) (q g bG bX : Nat) (ok : Bool) (z : Nat → Value) : Act :=
  (((((((((((((((a.put (some g) (.pointer (some ⟨bG, 0, none⟩))).put (some (g + 1)) (.pointer (some ⟨bX, 0, none⟩))).put (some (g + 2)) (.bool ok)).put (some q) (z 0)).put (some (q + 1)) (z 1)).put (some (q + 2)) (z 2)).put (some (q + 3)) (z 3)).put (some (q + 4)) (z 4)).put (some (q + 5)) (z 5)).put (some (q + 6)) (z 6)).put (some (q + 7)) (z 7)).put (some (q + 8)) (z 8)).put (some (q + 9)) (z 9)).put (some (q + 10)) (z 10)).put (some (q + 11)) (z 11)).put (some (q + 12)) (z 12)
structure RCtx (D : RIn) (O : ROut) (B0 : World) (a : Act) (q g : Nat) (fc : FuncId) (t0 t1 t2 : TypeId) (pos : String) (Q : Exit → Act → World → Prop) : Prop where
  FR : (frees.all fun t => Region.free .any (rops fc q g t0 t1 t2 pos) t.1 t.2) = true
  hq : q + 12 < a.tmps.size
  hg : g + 2 < q
  h6 : 6 < g
  hn : D.n ≤ 1048576
  hk : D.k ≤ 1048576
  hm : D.m ≤ 1048576
  hu : D.u ≤ 1048576
  hv : D.v ≤ 1048576
  hs : D.s ≤ 1048576
  rr : Row B0 D.ao D.n D.F D.T D.G
  rp : IRow B0 D.po D.k D.P
  re : ERow B0 D.eo D.m D.L D.H
  ru : IRow B0 D.uo D.u D.U
  rv : IRow B0 D.vo D.v D.V
  ra : Row B0 D.so D.s D.A D.B D.C
  HQ : ∀ c a i v w, Q (.panic c) (Act.put a (some i) v) w → Q (.panic c) a w
  hcf : ∀ args w, Sem.run Try.prog (callFunc fc args) w = .ok (.enter fc args) w
  hfc : ∀ ao' cap' po' pcap' eo' ecap' uo' ucap' vo' vcap' so' scap' W, Row W ao' D.n D.F D.T D.G → IRow W po' D.k D.P → ERow W eo' D.m D.L D.H → IRow W uo' D.u D.U → IRow W vo' D.v D.V → Row W so' D.s D.A D.B D.C → Calls Try.prog fc #[.agg #[.int .i64 D.p, .slice ao' D.n cap'], .agg #[.slice po' D.k pcap', .slice eo' D.m ecap'], .agg #[.slice uo' D.u ucap', .slice vo' D.v vcap'], .slice so' D.s scap'] W fun e w' => RAns W w' e O.p O.n D.F D.T O.H O.N O.CU O.CD O.ok
  HK : ∀ X bG bX ao cap xo xc yo yc d x y z, L2 B0 O.p O.n (ar D.F D.T O.H) O.N O.CU O.CD X bG bX ao cap xo xc yo yc d x y → Q .normal (rfin a q g bG bX O.ok z) X

section
variable {D : RIn} {O : ROut} {B0 : World} {a : Act} {q g : Nat} {fc : FuncId} {t0 t1 t2 : TypeId} {pos : String} {Q : Exit → Act → World → Prop}
theorem rfin_is {x : Act} {bG bX : Nat} {ok : Bool} (hq : q + 12 < a.tmps.size) (hg : g + 2 < q) (hz : x.tmps.size = a.tmps.size) (hd : x.defers = a.defers) (old : ∀ j, (j < q ∨ q + 12 < j) → j ≠ g → j ≠ g + 1 → j ≠ g + 2 → x.eval (.tmp j) = a.eval (.tmp j))
    (h0 : x.eval (.tmp g) = .pointer (some ⟨bG, 0, none⟩)) (h1 : x.eval (.tmp (g + 1)) = .pointer (some ⟨bX, 0, none⟩)) (h2 : x.eval (.tmp (g + 2)) = .bool ok) : x = rfin a q g bG bX ok (fun t => x.eval (.tmp (q + t))) := by
  unfold rfin
  refine act_ext (hd.trans (by simp only [put_defers])) (by simp only [put_size]; exact hz) (fun j hj => ?_)
  refine put_or (by first | omega | (simp only [put_size]; omega)) (fun c => by rw [c]) (fun c12 => ?_)
  refine put_or (by first | omega | (simp only [put_size]; omega)) (fun c => by rw [c]) (fun c11 => ?_)
  refine put_or (by first | omega | (simp only [put_size]; omega)) (fun c => by rw [c]) (fun c10 => ?_)
  refine put_or (by first | omega | (simp only [put_size]; omega)) (fun c => by rw [c]) (fun c9 => ?_)
  refine put_or (by first | omega | (simp only [put_size]; omega)) (fun c => by rw [c]) (fun c8 => ?_)
  refine put_or (by first | omega | (simp only [put_size]; omega)) (fun c => by rw [c]) (fun c7 => ?_)
  refine put_or (by first | omega | (simp only [put_size]; omega)) (fun c => by rw [c]) (fun c6 => ?_)
  refine put_or (by first | omega | (simp only [put_size]; omega)) (fun c => by rw [c]) (fun c5 => ?_)
  refine put_or (by first | omega | (simp only [put_size]; omega)) (fun c => by rw [c]) (fun c4 => ?_)
  refine put_or (by first | omega | (simp only [put_size]; omega)) (fun c => by rw [c]) (fun c3 => ?_)
  refine put_or (by first | omega | (simp only [put_size]; omega)) (fun c => by rw [c]) (fun c2 => ?_)
  refine put_or (by first | omega | (simp only [put_size]; omega)) (fun c => by rw [c]) (fun c1 => ?_)
  refine put_or (by first | omega | (simp only [put_size]; omega)) (fun c => by rw [c]; rfl) (fun c0 => ?_)
  refine put_or (by first | omega | (simp only [put_size]; omega)) (fun c => by rw [c]; exact h2) (fun c22 => ?_)
  refine put_or (by first | omega | (simp only [put_size]; omega)) (fun c => by rw [c]; exact h1) (fun c21 => ?_)
  refine put_or (by first | omega | (simp only [put_size]; omega)) (fun c => by rw [c]; exact h0) (fun c20 => ?_)
  exact old j (by omega) c20 c21 c22

theorem st_6_tt (C : RCtx D O B0 a q g fc t0 t1 t2 pos Q) : ∀ x X R lst, lst = #[true, true, true, true, true, true, true, true, true, true, true, true, true, true, true, false, false, false] → RSt D O B0 a q g 6 true true x X R → wpAnyH Try.prog .any (rops fc q g t0 t1 t2 pos) Q (fun W => Below B0.heap.size B0 W) 3 lst x X := by
  rintro x X R lst rfl S
  have hz := S.sz
  have hq := C.hq
  have hg := C.hg
  obtain ⟨e0, e1, e2, e3, e4, e5, e6, e7, e8, e9⟩ := S.r4 (by omega)
  obtain ⟨s0, s1, s2⟩ := S.r5 (by omega)
  obtain ⟨f0, f1, f2, f3, f4, f5⟩ := S.gf rfl
  obtain ⟨h0, h1, h2, h3, h4, h5⟩ := S.gh rfl
  obtain ⟨n1, n2, n3⟩ := f5 (by omega)
  obtain ⟨m1, m2, m3⟩ := h5 (by omega)
  have hne := ne_boxes f2 h2
  have b1 := hid_ret (a := .int .i64 O.p) (c := .slice R.ao O.n R.cap) S.bel f1
  have b2 := hid_ret (a := .slice R.xo O.N R.xc) (c := .slice R.yo O.N R.yc) b1 h1
  have hfz : ∀ o, ((X.setCell ⟨R.bG, 0, none⟩ (.int .i64 O.p)).setCell ⟨R.bG, 1, none⟩ (.slice R.ao O.n R.cap)).frozen? ⟨R.bX, o, none⟩ = false := fun o => by
    have := h4 o
    unfold World.frozen? at this ⊢
    rw [ret_block _ _ hne.2]
    exact this
  have LX := lb2_ss (s1 := .int .i64 O.p) (s2 := .slice R.ao O.n R.cap) (t1 := .slice R.xo O.N R.xc) (t2 := .slice R.yo O.N R.yc) f2 f3 h2 h3 hne.1
  have KEY := l2_of LX b2 e1 e2 e3 e4 e5 e6 ⟨f1, h1, e7.1, e8.1, e9.1, e7.2, e8.2, e9.2, n1, m1, n2, m2, n3, m3⟩
  refine step1H 15 _ rfl (by kernel_rfl) (by rfl) (wp_of_skip (run_storeG f0 s0 f2 f3 f4) ⟨b1.out, ?_⟩)
  refine step1H 16 _ rfl (by kernel_rfl) (by rfl) (wp_of_skip (run_storeM h0 s1 (cell_ret h2 hne.2) (cell_ret h3 hne.2) hfz) ⟨b2.out, ?_⟩)
  refine step1H 17 _ rfl (by kernel_rfl) (by rfl) (wp_of_run (run_assign s2) ⟨b2.out, ?_⟩)
  refine wpAnyH_done (by kernel_rfl) ?_ _
  have E := rfin_is (x := x.put (some (g + 2)) (.bool O.ok)) (bG := R.bG) (bX := R.bX) (ok := O.ok) C.hq C.hg (put_size.trans S.sz) S.df (fun j c0 c1 c2 c3 => by rw [put_ne c3]; exact S.old j c0 c1 c2 c3) ((put_ne (by omega)).trans f0) ((put_ne (by omega)).trans h0) (put_same (by omega))
  have := C.HK _ _ _ _ _ _ _ _ _ _ _ _ (fun t => (x.put (some (g + 2)) (.bool O.ok)).eval (.tmp (q + t))) KEY
  rw [← E] at this
  exact this

theorem st_6_tf (C : RCtx D O B0 a q g fc t0 t1 t2 pos Q) : ∀ x X R lst, lst = #[true, true, true, true, true, true, true, true, true, true, true, true, true, true, false, false, false, false] → RSt D O B0 a q g 6 true false x X R → wpAnyH Try.prog .any (rops fc q g t0 t1 t2 pos) Q (fun W => Below B0.heap.size B0 W) 4 lst x X := by
  rintro x X R lst rfl S
  refine wpAnyH_ready (rs := [14]) (by kernel_rfl) (by simp) ?_
  refine AllReadyH.cons rfl (fun K' hK => ?_) ?_
  · rw [if_pos (by rfl)]
    refine wp_of_made run_allocM (hK.out _ _ (below_next S.bel (Nat.le_refl _) (alloc_b _ _)) (fun _ => st_6_tt C _ _ _ _ (by kernel_rfl) ((S.next (alloc_b _ _)).aX C.hq C.hg S.bel.size (nbx0 _) (nbx1 _) (nbz _) (fun _ => by have q4 := S.r4 (by omega); have k1 := q4.2.2.2.2.2.2.2.1.2; have k2 := q4.2.2.2.2.2.2.2.2.1.2; have k3 := q4.2.2.2.2.2.2.2.2.2.2; refine ⟨?_, ?_, ?_⟩ <;> omega))))
  exact AllReadyH.nil

theorem st_6_ft (C : RCtx D O B0 a q g fc t0 t1 t2 pos Q) : ∀ x X R lst, lst = #[true, true, true, true, true, true, true, true, true, true, true, true, true, false, true, false, false, false] → RSt D O B0 a q g 6 false true x X R → wpAnyH Try.prog .any (rops fc q g t0 t1 t2 pos) Q (fun W => Below B0.heap.size B0 W) 4 lst x X := by
  rintro x X R lst rfl S
  refine wpAnyH_ready (rs := [13]) (by kernel_rfl) (by simp) ?_
  refine AllReadyH.cons rfl (fun K' hK => ?_) ?_
  · rw [if_pos (by rfl)]
    refine wp_of_made run_allocG (hK.out _ _ (below_next S.bel (Nat.le_refl _) (alloc_b _ _)) (fun _ => st_6_tt C _ _ _ _ (by kernel_rfl) ((S.next (alloc_b _ _)).aG C.hq C.hg S.bel.size (nbg0 _) (nbg1 _) (nbgz _) (fun _ => by have q4 := S.r4 (by omega); have k1 := q4.2.2.2.2.2.2.2.1.2; have k2 := q4.2.2.2.2.2.2.2.2.1.2; have k3 := q4.2.2.2.2.2.2.2.2.2.2; refine ⟨?_, ?_, ?_⟩ <;> omega))))
  exact AllReadyH.nil

theorem st_6_ff (C : RCtx D O B0 a q g fc t0 t1 t2 pos Q) : ∀ x X R lst, lst = #[true, true, true, true, true, true, true, true, true, true, true, true, true, false, false, false, false, false] → RSt D O B0 a q g 6 false false x X R → wpAnyH Try.prog .any (rops fc q g t0 t1 t2 pos) Q (fun W => Below B0.heap.size B0 W) 5 lst x X := by
  rintro x X R lst rfl S
  refine wpAnyH_ready (rs := [13, 14]) (by kernel_rfl) (by simp) ?_
  refine AllReadyH.cons rfl (fun K' hK => ?_) ?_
  · rw [if_pos (by rfl)]
    refine wp_of_made run_allocG (hK.out _ _ (below_next S.bel (Nat.le_refl _) (alloc_b _ _)) (fun _ => st_6_tf C _ _ _ _ (by kernel_rfl) ((S.next (alloc_b _ _)).aG C.hq C.hg S.bel.size (nbg0 _) (nbg1 _) (nbgz _) (fun _ => by have q4 := S.r4 (by omega); have k1 := q4.2.2.2.2.2.2.2.1.2; have k2 := q4.2.2.2.2.2.2.2.2.1.2; have k3 := q4.2.2.2.2.2.2.2.2.2.2; refine ⟨?_, ?_, ?_⟩ <;> omega))))
  refine AllReadyH.cons rfl (fun K' hK => ?_) ?_
  · rw [if_pos (by rfl)]
    refine wp_of_made run_allocM (hK.out _ _ (below_next S.bel (Nat.le_refl _) (alloc_b _ _)) (fun _ => st_6_ft C _ _ _ _ (by kernel_rfl) ((S.next (alloc_b _ _)).aX C.hq C.hg S.bel.size (nbx0 _) (nbx1 _) (nbz _) (fun _ => by have q4 := S.r4 (by omega); have k1 := q4.2.2.2.2.2.2.2.1.2; have k2 := q4.2.2.2.2.2.2.2.2.1.2; have k3 := q4.2.2.2.2.2.2.2.2.2.2; refine ⟨?_, ?_, ?_⟩ <;> omega))))
  exact AllReadyH.nil

theorem st_5_tt (C : RCtx D O B0 a q g fc t0 t1 t2 pos Q) : ∀ x X R lst, lst = #[true, true, true, true, true, true, true, true, true, false, false, false, false, true, true, false, false, false] → RSt D O B0 a q g 5 true true x X R → wpAnyH Try.prog .any (rops fc q g t0 t1 t2 pos) Q (fun W => Below B0.heap.size B0 W) 7 lst x X := by
  rintro x X R lst rfl S
  have q4 := (S.r4 (by omega)).1
  have hz := S.sz
  have hq := C.hq
  have hg := C.hg
  refine takeH 9 (some q) _ rfl rfl (by kernel_rfl) (free_at C.FR 4 (by kernel_rfl)) (by kernel_rfl) (fun c a w => C.HQ c a _ _ w) (by rfl) S.bel (fun w _ => run_move q4) ?_
  have S1 := S.e9 C.hq C.hg (v0 := .tuple #[.agg #[.int .i64 O.p, .slice R.ao O.n R.cap], .agg #[.slice R.xo O.N R.xc, .slice R.yo O.N R.yc], .bool O.ok])
  have k0 := put_same (a := x) (v := .tuple #[.agg #[.int .i64 O.p, .slice R.ao O.n R.cap], .agg #[.slice R.xo O.N R.xc, .slice R.yo O.N R.yc], .bool O.ok]) (show q < x.tmps.size by omega)
  generalize x.put (some q) (.tuple #[.agg #[.int .i64 O.p, .slice R.ao O.n R.cap], .agg #[.slice R.xo O.N R.xc, .slice R.yo O.N R.yc], .bool O.ok]) = x1 at S1 k0 ⊢
  have hz1 := S1.sz
  refine takeH 10 (some (q + 10)) _ rfl rfl (by kernel_rfl) (free_at C.FR 5 (by kernel_rfl)) (by kernel_rfl) (fun c a w => C.HQ c a _ _ w) (by rfl) S.bel (fun w _ => run_ext0 k0) ?_
  have S2 := S1.e10 C.hq C.hg (v0 := .agg #[.int .i64 O.p, .slice R.ao O.n R.cap])
  have k1 := put_same (a := x1) (v := .agg #[.int .i64 O.p, .slice R.ao O.n R.cap]) (show q + 10 < x1.tmps.size by omega)
  have k2 := (put_ne (a := x1) (v := .agg #[.int .i64 O.p, .slice R.ao O.n R.cap]) (show q ≠ q + 10 by omega)).trans k0
  generalize x1.put (some (q + 10)) (.agg #[.int .i64 O.p, .slice R.ao O.n R.cap]) = x2 at S2 k1 k2 ⊢
  have hz2 := S2.sz
  refine takeH 11 (some (q + 11)) _ rfl rfl (by kernel_rfl) (free_at C.FR 6 (by kernel_rfl)) (by kernel_rfl) (fun c a w => C.HQ c a _ _ w) (by rfl) S.bel (fun w _ => run_ext1 k2) ?_
  have S3 := S2.e11 C.hq C.hg (v0 := .agg #[.slice R.xo O.N R.xc, .slice R.yo O.N R.yc])
  have k3 := put_same (a := x2) (v := .agg #[.slice R.xo O.N R.xc, .slice R.yo O.N R.yc]) (show q + 11 < x2.tmps.size by omega)
  have k4 := (put_ne (a := x2) (v := .agg #[.slice R.xo O.N R.xc, .slice R.yo O.N R.yc]) (show q ≠ q + 11 by omega)).trans k2
  have k5 := (put_ne (a := x2) (v := .agg #[.slice R.xo O.N R.xc, .slice R.yo O.N R.yc]) (show q + 10 ≠ q + 11 by omega)).trans k1
  generalize x2.put (some (q + 11)) (.agg #[.slice R.xo O.N R.xc, .slice R.yo O.N R.yc]) = x3 at S3 k3 k4 k5 ⊢
  have hz3 := S3.sz
  refine takeH 12 (some (q + 12)) _ rfl rfl (by kernel_rfl) (free_at C.FR 7 (by kernel_rfl)) (by kernel_rfl) (fun c a w => C.HQ c a _ _ w) (by rfl) S.bel (fun w _ => run_ext2 k4) ?_
  exact st_6_tt C _ _ _ _ (by kernel_rfl) ((S3.e12 C.hq C.hg).c5 ((put_ne (by omega)).trans k5) ((put_ne (by omega)).trans k3) (put_same (by omega)))

theorem st_5_tf (C : RCtx D O B0 a q g fc t0 t1 t2 pos Q) : ∀ x X R lst, lst = #[true, true, true, true, true, true, true, true, true, false, false, false, false, true, false, false, false, false] → RSt D O B0 a q g 5 true false x X R → wpAnyH Try.prog .any (rops fc q g t0 t1 t2 pos) Q (fun W => Below B0.heap.size B0 W) 8 lst x X := by
  rintro x X R lst rfl S
  have q4 := (S.r4 (by omega)).1
  have hz := S.sz
  have hq := C.hq
  have hg := C.hg
  refine takeH 9 (some q) _ rfl rfl (by kernel_rfl) (free_at C.FR 8 (by kernel_rfl)) (by kernel_rfl) (fun c a w => C.HQ c a _ _ w) (by rfl) S.bel (fun w _ => run_move q4) ?_
  have S1 := S.e9 C.hq C.hg (v0 := .tuple #[.agg #[.int .i64 O.p, .slice R.ao O.n R.cap], .agg #[.slice R.xo O.N R.xc, .slice R.yo O.N R.yc], .bool O.ok])
  have k0 := put_same (a := x) (v := .tuple #[.agg #[.int .i64 O.p, .slice R.ao O.n R.cap], .agg #[.slice R.xo O.N R.xc, .slice R.yo O.N R.yc], .bool O.ok]) (show q < x.tmps.size by omega)
  generalize x.put (some q) (.tuple #[.agg #[.int .i64 O.p, .slice R.ao O.n R.cap], .agg #[.slice R.xo O.N R.xc, .slice R.yo O.N R.yc], .bool O.ok]) = x1 at S1 k0 ⊢
  have hz1 := S1.sz
  refine takeH 10 (some (q + 10)) _ rfl rfl (by kernel_rfl) (free_at C.FR 9 (by kernel_rfl)) (by kernel_rfl) (fun c a w => C.HQ c a _ _ w) (by rfl) S.bel (fun w _ => run_ext0 k0) ?_
  have S2 := S1.e10 C.hq C.hg (v0 := .agg #[.int .i64 O.p, .slice R.ao O.n R.cap])
  have k1 := put_same (a := x1) (v := .agg #[.int .i64 O.p, .slice R.ao O.n R.cap]) (show q + 10 < x1.tmps.size by omega)
  have k2 := (put_ne (a := x1) (v := .agg #[.int .i64 O.p, .slice R.ao O.n R.cap]) (show q ≠ q + 10 by omega)).trans k0
  generalize x1.put (some (q + 10)) (.agg #[.int .i64 O.p, .slice R.ao O.n R.cap]) = x2 at S2 k1 k2 ⊢
  have hz2 := S2.sz
  refine takeH 11 (some (q + 11)) _ rfl rfl (by kernel_rfl) (free_at C.FR 10 (by kernel_rfl)) (by kernel_rfl) (fun c a w => C.HQ c a _ _ w) (by rfl) S.bel (fun w _ => run_ext1 k2) ?_
  have S3 := S2.e11 C.hq C.hg (v0 := .agg #[.slice R.xo O.N R.xc, .slice R.yo O.N R.yc])
  have k3 := put_same (a := x2) (v := .agg #[.slice R.xo O.N R.xc, .slice R.yo O.N R.yc]) (show q + 11 < x2.tmps.size by omega)
  have k4 := (put_ne (a := x2) (v := .agg #[.slice R.xo O.N R.xc, .slice R.yo O.N R.yc]) (show q ≠ q + 11 by omega)).trans k2
  have k5 := (put_ne (a := x2) (v := .agg #[.slice R.xo O.N R.xc, .slice R.yo O.N R.yc]) (show q + 10 ≠ q + 11 by omega)).trans k1
  generalize x2.put (some (q + 11)) (.agg #[.slice R.xo O.N R.xc, .slice R.yo O.N R.yc]) = x3 at S3 k3 k4 k5 ⊢
  have hz3 := S3.sz
  refine takeH 12 (some (q + 12)) _ rfl rfl (by kernel_rfl) (free_at C.FR 11 (by kernel_rfl)) (by kernel_rfl) (fun c a w => C.HQ c a _ _ w) (by rfl) S.bel (fun w _ => run_ext2 k4) ?_
  exact st_6_tf C _ _ _ _ (by kernel_rfl) ((S3.e12 C.hq C.hg).c5 ((put_ne (by omega)).trans k5) ((put_ne (by omega)).trans k3) (put_same (by omega)))

theorem st_5_ft (C : RCtx D O B0 a q g fc t0 t1 t2 pos Q) : ∀ x X R lst, lst = #[true, true, true, true, true, true, true, true, true, false, false, false, false, false, true, false, false, false] → RSt D O B0 a q g 5 false true x X R → wpAnyH Try.prog .any (rops fc q g t0 t1 t2 pos) Q (fun W => Below B0.heap.size B0 W) 8 lst x X := by
  rintro x X R lst rfl S
  have q4 := (S.r4 (by omega)).1
  have hz := S.sz
  have hq := C.hq
  have hg := C.hg
  refine takeH 9 (some q) _ rfl rfl (by kernel_rfl) (free_at C.FR 12 (by kernel_rfl)) (by kernel_rfl) (fun c a w => C.HQ c a _ _ w) (by rfl) S.bel (fun w _ => run_move q4) ?_
  have S1 := S.e9 C.hq C.hg (v0 := .tuple #[.agg #[.int .i64 O.p, .slice R.ao O.n R.cap], .agg #[.slice R.xo O.N R.xc, .slice R.yo O.N R.yc], .bool O.ok])
  have k0 := put_same (a := x) (v := .tuple #[.agg #[.int .i64 O.p, .slice R.ao O.n R.cap], .agg #[.slice R.xo O.N R.xc, .slice R.yo O.N R.yc], .bool O.ok]) (show q < x.tmps.size by omega)
  generalize x.put (some q) (.tuple #[.agg #[.int .i64 O.p, .slice R.ao O.n R.cap], .agg #[.slice R.xo O.N R.xc, .slice R.yo O.N R.yc], .bool O.ok]) = x1 at S1 k0 ⊢
  have hz1 := S1.sz
  refine takeH 10 (some (q + 10)) _ rfl rfl (by kernel_rfl) (free_at C.FR 13 (by kernel_rfl)) (by kernel_rfl) (fun c a w => C.HQ c a _ _ w) (by rfl) S.bel (fun w _ => run_ext0 k0) ?_
  have S2 := S1.e10 C.hq C.hg (v0 := .agg #[.int .i64 O.p, .slice R.ao O.n R.cap])
  have k1 := put_same (a := x1) (v := .agg #[.int .i64 O.p, .slice R.ao O.n R.cap]) (show q + 10 < x1.tmps.size by omega)
  have k2 := (put_ne (a := x1) (v := .agg #[.int .i64 O.p, .slice R.ao O.n R.cap]) (show q ≠ q + 10 by omega)).trans k0
  generalize x1.put (some (q + 10)) (.agg #[.int .i64 O.p, .slice R.ao O.n R.cap]) = x2 at S2 k1 k2 ⊢
  have hz2 := S2.sz
  refine takeH 11 (some (q + 11)) _ rfl rfl (by kernel_rfl) (free_at C.FR 14 (by kernel_rfl)) (by kernel_rfl) (fun c a w => C.HQ c a _ _ w) (by rfl) S.bel (fun w _ => run_ext1 k2) ?_
  have S3 := S2.e11 C.hq C.hg (v0 := .agg #[.slice R.xo O.N R.xc, .slice R.yo O.N R.yc])
  have k3 := put_same (a := x2) (v := .agg #[.slice R.xo O.N R.xc, .slice R.yo O.N R.yc]) (show q + 11 < x2.tmps.size by omega)
  have k4 := (put_ne (a := x2) (v := .agg #[.slice R.xo O.N R.xc, .slice R.yo O.N R.yc]) (show q ≠ q + 11 by omega)).trans k2
  have k5 := (put_ne (a := x2) (v := .agg #[.slice R.xo O.N R.xc, .slice R.yo O.N R.yc]) (show q + 10 ≠ q + 11 by omega)).trans k1
  generalize x2.put (some (q + 11)) (.agg #[.slice R.xo O.N R.xc, .slice R.yo O.N R.yc]) = x3 at S3 k3 k4 k5 ⊢
  have hz3 := S3.sz
  refine takeH 12 (some (q + 12)) _ rfl rfl (by kernel_rfl) (free_at C.FR 15 (by kernel_rfl)) (by kernel_rfl) (fun c a w => C.HQ c a _ _ w) (by rfl) S.bel (fun w _ => run_ext2 k4) ?_
  exact st_6_ft C _ _ _ _ (by kernel_rfl) ((S3.e12 C.hq C.hg).c5 ((put_ne (by omega)).trans k5) ((put_ne (by omega)).trans k3) (put_same (by omega)))

theorem st_5_ff (C : RCtx D O B0 a q g fc t0 t1 t2 pos Q) : ∀ x X R lst, lst = #[true, true, true, true, true, true, true, true, true, false, false, false, false, false, false, false, false, false] → RSt D O B0 a q g 5 false false x X R → wpAnyH Try.prog .any (rops fc q g t0 t1 t2 pos) Q (fun W => Below B0.heap.size B0 W) 9 lst x X := by
  rintro x X R lst rfl S
  have q4 := (S.r4 (by omega)).1
  have hz := S.sz
  have hq := C.hq
  have hg := C.hg
  refine takeH 9 (some q) _ rfl rfl (by kernel_rfl) (free_at C.FR 16 (by kernel_rfl)) (by kernel_rfl) (fun c a w => C.HQ c a _ _ w) (by rfl) S.bel (fun w _ => run_move q4) ?_
  have S1 := S.e9 C.hq C.hg (v0 := .tuple #[.agg #[.int .i64 O.p, .slice R.ao O.n R.cap], .agg #[.slice R.xo O.N R.xc, .slice R.yo O.N R.yc], .bool O.ok])
  have k0 := put_same (a := x) (v := .tuple #[.agg #[.int .i64 O.p, .slice R.ao O.n R.cap], .agg #[.slice R.xo O.N R.xc, .slice R.yo O.N R.yc], .bool O.ok]) (show q < x.tmps.size by omega)
  generalize x.put (some q) (.tuple #[.agg #[.int .i64 O.p, .slice R.ao O.n R.cap], .agg #[.slice R.xo O.N R.xc, .slice R.yo O.N R.yc], .bool O.ok]) = x1 at S1 k0 ⊢
  have hz1 := S1.sz
  refine takeH 10 (some (q + 10)) _ rfl rfl (by kernel_rfl) (free_at C.FR 17 (by kernel_rfl)) (by kernel_rfl) (fun c a w => C.HQ c a _ _ w) (by rfl) S.bel (fun w _ => run_ext0 k0) ?_
  have S2 := S1.e10 C.hq C.hg (v0 := .agg #[.int .i64 O.p, .slice R.ao O.n R.cap])
  have k1 := put_same (a := x1) (v := .agg #[.int .i64 O.p, .slice R.ao O.n R.cap]) (show q + 10 < x1.tmps.size by omega)
  have k2 := (put_ne (a := x1) (v := .agg #[.int .i64 O.p, .slice R.ao O.n R.cap]) (show q ≠ q + 10 by omega)).trans k0
  generalize x1.put (some (q + 10)) (.agg #[.int .i64 O.p, .slice R.ao O.n R.cap]) = x2 at S2 k1 k2 ⊢
  have hz2 := S2.sz
  refine takeH 11 (some (q + 11)) _ rfl rfl (by kernel_rfl) (free_at C.FR 18 (by kernel_rfl)) (by kernel_rfl) (fun c a w => C.HQ c a _ _ w) (by rfl) S.bel (fun w _ => run_ext1 k2) ?_
  have S3 := S2.e11 C.hq C.hg (v0 := .agg #[.slice R.xo O.N R.xc, .slice R.yo O.N R.yc])
  have k3 := put_same (a := x2) (v := .agg #[.slice R.xo O.N R.xc, .slice R.yo O.N R.yc]) (show q + 11 < x2.tmps.size by omega)
  have k4 := (put_ne (a := x2) (v := .agg #[.slice R.xo O.N R.xc, .slice R.yo O.N R.yc]) (show q ≠ q + 11 by omega)).trans k2
  have k5 := (put_ne (a := x2) (v := .agg #[.slice R.xo O.N R.xc, .slice R.yo O.N R.yc]) (show q + 10 ≠ q + 11 by omega)).trans k1
  generalize x2.put (some (q + 11)) (.agg #[.slice R.xo O.N R.xc, .slice R.yo O.N R.yc]) = x3 at S3 k3 k4 k5 ⊢
  have hz3 := S3.sz
  refine takeH 12 (some (q + 12)) _ rfl rfl (by kernel_rfl) (free_at C.FR 19 (by kernel_rfl)) (by kernel_rfl) (fun c a w => C.HQ c a _ _ w) (by rfl) S.bel (fun w _ => run_ext2 k4) ?_
  exact st_6_ff C _ _ _ _ (by kernel_rfl) ((S3.e12 C.hq C.hg).c5 ((put_ne (by omega)).trans k5) ((put_ne (by omega)).trans k3) (put_same (by omega)))

theorem st_4_tt (C : RCtx D O B0 a q g fc t0 t1 t2 pos Q) : ∀ x X R lst, lst = #[true, true, true, true, true, true, true, true, false, false, false, false, false, true, true, false, false, false] → RSt D O B0 a q g 4 true true x X R → wpAnyH Try.prog .any (rops fc q g t0 t1 t2 pos) Q (fun W => Below B0.heap.size B0 W) 8 lst x X := by
  rintro x X R lst rfl S
  refine wpAnyH_ready (rs := [8]) (by kernel_rfl) (by simp) ?_
  refine AllReadyH.cons rfl (fun K' hK => ?_) ?_
  · rw [if_pos (by rfl)]
    have q0 := S.r0 (by omega)
    have q1 := S.r1 (by omega)
    have q2 := S.r2 (by omega)
    have q3 := S.r3 (by omega)
    refine wp_of_enter (run_call4 C.hcf rfl q0.1 q1.1 q2.1 q3.1) (C.hfc _ _ _ _ _ _ _ _ _ _ _ _ _ q0.2 q1.2.1 q1.2.2 q2.2.1 q2.2.2 q3.2) ?_
    rintro e w' ⟨ao', cap', xo', xc', yo', yc', rfl, hA, hX, h3, hb⟩
    obtain ⟨d', x', y', e1, e2, e3, e4, e5, e6, e7, e8, e9, _⟩ := pick3 hA hX h3
    exact ⟨_, rfl, hK.out _ _ (below_next S.bel (Nat.le_refl _) hb) (fun _ => st_5_tt C _ _ _ _ (by kernel_rfl) ((S.next hb).c4 C.hq C.hg e1 e2 e3 e4 e5 e6 e7 e8 e9 S.bel.size (fun c => lt_of_cell (S.gf c).2.2.1) (fun c => lt_of_cell (S.gh c).2.2.1)))⟩
  exact AllReadyH.nil

theorem st_4_tf (C : RCtx D O B0 a q g fc t0 t1 t2 pos Q) : ∀ x X R lst, lst = #[true, true, true, true, true, true, true, true, false, false, false, false, false, true, false, false, false, false] → RSt D O B0 a q g 4 true false x X R → wpAnyH Try.prog .any (rops fc q g t0 t1 t2 pos) Q (fun W => Below B0.heap.size B0 W) 9 lst x X := by
  rintro x X R lst rfl S
  refine wpAnyH_ready (rs := [8, 14]) (by kernel_rfl) (by simp) ?_
  refine AllReadyH.cons rfl (fun K' hK => ?_) ?_
  · rw [if_pos (by rfl)]
    have q0 := S.r0 (by omega)
    have q1 := S.r1 (by omega)
    have q2 := S.r2 (by omega)
    have q3 := S.r3 (by omega)
    refine wp_of_enter (run_call4 C.hcf rfl q0.1 q1.1 q2.1 q3.1) (C.hfc _ _ _ _ _ _ _ _ _ _ _ _ _ q0.2 q1.2.1 q1.2.2 q2.2.1 q2.2.2 q3.2) ?_
    rintro e w' ⟨ao', cap', xo', xc', yo', yc', rfl, hA, hX, h3, hb⟩
    obtain ⟨d', x', y', e1, e2, e3, e4, e5, e6, e7, e8, e9, _⟩ := pick3 hA hX h3
    exact ⟨_, rfl, hK.out _ _ (below_next S.bel (Nat.le_refl _) hb) (fun _ => st_5_tf C _ _ _ _ (by kernel_rfl) ((S.next hb).c4 C.hq C.hg e1 e2 e3 e4 e5 e6 e7 e8 e9 S.bel.size (fun c => lt_of_cell (S.gf c).2.2.1) (fun c => lt_of_cell (S.gh c).2.2.1)))⟩
  refine AllReadyH.cons rfl (fun K' hK => ?_) ?_
  · rw [if_pos (by rfl)]
    refine wp_of_made run_allocM (hK.out _ _ (below_next S.bel (Nat.le_refl _) (alloc_b _ _)) (fun _ => st_4_tt C _ _ _ _ (by kernel_rfl) ((S.next (alloc_b _ _)).aX C.hq C.hg S.bel.size (nbx0 _) (nbx1 _) (nbz _) (fun c => absurd c (by omega)))))
  exact AllReadyH.nil

theorem st_4_ft (C : RCtx D O B0 a q g fc t0 t1 t2 pos Q) : ∀ x X R lst, lst = #[true, true, true, true, true, true, true, true, false, false, false, false, false, false, true, false, false, false] → RSt D O B0 a q g 4 false true x X R → wpAnyH Try.prog .any (rops fc q g t0 t1 t2 pos) Q (fun W => Below B0.heap.size B0 W) 9 lst x X := by
  rintro x X R lst rfl S
  refine wpAnyH_ready (rs := [8, 13]) (by kernel_rfl) (by simp) ?_
  refine AllReadyH.cons rfl (fun K' hK => ?_) ?_
  · rw [if_pos (by rfl)]
    have q0 := S.r0 (by omega)
    have q1 := S.r1 (by omega)
    have q2 := S.r2 (by omega)
    have q3 := S.r3 (by omega)
    refine wp_of_enter (run_call4 C.hcf rfl q0.1 q1.1 q2.1 q3.1) (C.hfc _ _ _ _ _ _ _ _ _ _ _ _ _ q0.2 q1.2.1 q1.2.2 q2.2.1 q2.2.2 q3.2) ?_
    rintro e w' ⟨ao', cap', xo', xc', yo', yc', rfl, hA, hX, h3, hb⟩
    obtain ⟨d', x', y', e1, e2, e3, e4, e5, e6, e7, e8, e9, _⟩ := pick3 hA hX h3
    exact ⟨_, rfl, hK.out _ _ (below_next S.bel (Nat.le_refl _) hb) (fun _ => st_5_ft C _ _ _ _ (by kernel_rfl) ((S.next hb).c4 C.hq C.hg e1 e2 e3 e4 e5 e6 e7 e8 e9 S.bel.size (fun c => lt_of_cell (S.gf c).2.2.1) (fun c => lt_of_cell (S.gh c).2.2.1)))⟩
  refine AllReadyH.cons rfl (fun K' hK => ?_) ?_
  · rw [if_pos (by rfl)]
    refine wp_of_made run_allocG (hK.out _ _ (below_next S.bel (Nat.le_refl _) (alloc_b _ _)) (fun _ => st_4_tt C _ _ _ _ (by kernel_rfl) ((S.next (alloc_b _ _)).aG C.hq C.hg S.bel.size (nbg0 _) (nbg1 _) (nbgz _) (fun c => absurd c (by omega)))))
  exact AllReadyH.nil

theorem st_4_ff (C : RCtx D O B0 a q g fc t0 t1 t2 pos Q) : ∀ x X R lst, lst = #[true, true, true, true, true, true, true, true, false, false, false, false, false, false, false, false, false, false] → RSt D O B0 a q g 4 false false x X R → wpAnyH Try.prog .any (rops fc q g t0 t1 t2 pos) Q (fun W => Below B0.heap.size B0 W) 10 lst x X := by
  rintro x X R lst rfl S
  refine wpAnyH_ready (rs := [8, 13, 14]) (by kernel_rfl) (by simp) ?_
  refine AllReadyH.cons rfl (fun K' hK => ?_) ?_
  · rw [if_pos (by rfl)]
    have q0 := S.r0 (by omega)
    have q1 := S.r1 (by omega)
    have q2 := S.r2 (by omega)
    have q3 := S.r3 (by omega)
    refine wp_of_enter (run_call4 C.hcf rfl q0.1 q1.1 q2.1 q3.1) (C.hfc _ _ _ _ _ _ _ _ _ _ _ _ _ q0.2 q1.2.1 q1.2.2 q2.2.1 q2.2.2 q3.2) ?_
    rintro e w' ⟨ao', cap', xo', xc', yo', yc', rfl, hA, hX, h3, hb⟩
    obtain ⟨d', x', y', e1, e2, e3, e4, e5, e6, e7, e8, e9, _⟩ := pick3 hA hX h3
    exact ⟨_, rfl, hK.out _ _ (below_next S.bel (Nat.le_refl _) hb) (fun _ => st_5_ff C _ _ _ _ (by kernel_rfl) ((S.next hb).c4 C.hq C.hg e1 e2 e3 e4 e5 e6 e7 e8 e9 S.bel.size (fun c => lt_of_cell (S.gf c).2.2.1) (fun c => lt_of_cell (S.gh c).2.2.1)))⟩
  refine AllReadyH.cons rfl (fun K' hK => ?_) ?_
  · rw [if_pos (by rfl)]
    refine wp_of_made run_allocG (hK.out _ _ (below_next S.bel (Nat.le_refl _) (alloc_b _ _)) (fun _ => st_4_tf C _ _ _ _ (by kernel_rfl) ((S.next (alloc_b _ _)).aG C.hq C.hg S.bel.size (nbg0 _) (nbg1 _) (nbgz _) (fun c => absurd c (by omega)))))
  refine AllReadyH.cons rfl (fun K' hK => ?_) ?_
  · rw [if_pos (by rfl)]
    refine wp_of_made run_allocM (hK.out _ _ (below_next S.bel (Nat.le_refl _) (alloc_b _ _)) (fun _ => st_4_ft C _ _ _ _ (by kernel_rfl) ((S.next (alloc_b _ _)).aX C.hq C.hg S.bel.size (nbx0 _) (nbx1 _) (nbz _) (fun c => absurd c (by omega)))))
  exact AllReadyH.nil

theorem st_3_tt (C : RCtx D O B0 a q g fc t0 t1 t2 pos Q) : ∀ x X R lst, lst = #[true, true, true, true, true, true, true, false, false, false, false, false, false, true, true, false, false, false] → RSt D O B0 a q g 3 true true x X R → wpAnyH Try.prog .any (rops fc q g t0 t1 t2 pos) Q (fun W => Below B0.heap.size B0 W) 9 lst x X := by
  rintro x X R lst rfl S
  refine wpAnyH_ready (rs := [7]) (by kernel_rfl) (by simp) ?_
  refine AllReadyH.cons rfl (fun K' hK => ?_) ?_
  · rw [if_pos (by rfl)]
    refine wp_of_enter (run_call1 cf_toArcS rfl S.l3) (toArcS_any D.so D.s D.scap D.A D.B D.C C.hs _ (C.ra.below S.bel (Nat.le_refl _))) ?_
    rintro e w' ⟨rfl, ow, hb⟩
    exact ⟨_, rfl, hK.out _ _ (below_next S.bel (Nat.le_refl _) hb) (fun _ => st_4_tt C _ _ _ _ (by kernel_rfl) ((S.next hb).c3 C.hq C.hg ow.row))⟩
  exact AllReadyH.nil

theorem st_3_tf (C : RCtx D O B0 a q g fc t0 t1 t2 pos Q) : ∀ x X R lst, lst = #[true, true, true, true, true, true, true, false, false, false, false, false, false, true, false, false, false, false] → RSt D O B0 a q g 3 true false x X R → wpAnyH Try.prog .any (rops fc q g t0 t1 t2 pos) Q (fun W => Below B0.heap.size B0 W) 10 lst x X := by
  rintro x X R lst rfl S
  refine wpAnyH_ready (rs := [7, 14]) (by kernel_rfl) (by simp) ?_
  refine AllReadyH.cons rfl (fun K' hK => ?_) ?_
  · rw [if_pos (by rfl)]
    refine wp_of_enter (run_call1 cf_toArcS rfl S.l3) (toArcS_any D.so D.s D.scap D.A D.B D.C C.hs _ (C.ra.below S.bel (Nat.le_refl _))) ?_
    rintro e w' ⟨rfl, ow, hb⟩
    exact ⟨_, rfl, hK.out _ _ (below_next S.bel (Nat.le_refl _) hb) (fun _ => st_4_tf C _ _ _ _ (by kernel_rfl) ((S.next hb).c3 C.hq C.hg ow.row))⟩
  refine AllReadyH.cons rfl (fun K' hK => ?_) ?_
  · rw [if_pos (by rfl)]
    refine wp_of_made run_allocM (hK.out _ _ (below_next S.bel (Nat.le_refl _) (alloc_b _ _)) (fun _ => st_3_tt C _ _ _ _ (by kernel_rfl) ((S.next (alloc_b _ _)).aX C.hq C.hg S.bel.size (nbx0 _) (nbx1 _) (nbz _) (fun c => absurd c (by omega)))))
  exact AllReadyH.nil

theorem st_3_ft (C : RCtx D O B0 a q g fc t0 t1 t2 pos Q) : ∀ x X R lst, lst = #[true, true, true, true, true, true, true, false, false, false, false, false, false, false, true, false, false, false] → RSt D O B0 a q g 3 false true x X R → wpAnyH Try.prog .any (rops fc q g t0 t1 t2 pos) Q (fun W => Below B0.heap.size B0 W) 10 lst x X := by
  rintro x X R lst rfl S
  refine wpAnyH_ready (rs := [7, 13]) (by kernel_rfl) (by simp) ?_
  refine AllReadyH.cons rfl (fun K' hK => ?_) ?_
  · rw [if_pos (by rfl)]
    refine wp_of_enter (run_call1 cf_toArcS rfl S.l3) (toArcS_any D.so D.s D.scap D.A D.B D.C C.hs _ (C.ra.below S.bel (Nat.le_refl _))) ?_
    rintro e w' ⟨rfl, ow, hb⟩
    exact ⟨_, rfl, hK.out _ _ (below_next S.bel (Nat.le_refl _) hb) (fun _ => st_4_ft C _ _ _ _ (by kernel_rfl) ((S.next hb).c3 C.hq C.hg ow.row))⟩
  refine AllReadyH.cons rfl (fun K' hK => ?_) ?_
  · rw [if_pos (by rfl)]
    refine wp_of_made run_allocG (hK.out _ _ (below_next S.bel (Nat.le_refl _) (alloc_b _ _)) (fun _ => st_3_tt C _ _ _ _ (by kernel_rfl) ((S.next (alloc_b _ _)).aG C.hq C.hg S.bel.size (nbg0 _) (nbg1 _) (nbgz _) (fun c => absurd c (by omega)))))
  exact AllReadyH.nil

theorem st_3_ff (C : RCtx D O B0 a q g fc t0 t1 t2 pos Q) : ∀ x X R lst, lst = #[true, true, true, true, true, true, true, false, false, false, false, false, false, false, false, false, false, false] → RSt D O B0 a q g 3 false false x X R → wpAnyH Try.prog .any (rops fc q g t0 t1 t2 pos) Q (fun W => Below B0.heap.size B0 W) 11 lst x X := by
  rintro x X R lst rfl S
  refine wpAnyH_ready (rs := [7, 13, 14]) (by kernel_rfl) (by simp) ?_
  refine AllReadyH.cons rfl (fun K' hK => ?_) ?_
  · rw [if_pos (by rfl)]
    refine wp_of_enter (run_call1 cf_toArcS rfl S.l3) (toArcS_any D.so D.s D.scap D.A D.B D.C C.hs _ (C.ra.below S.bel (Nat.le_refl _))) ?_
    rintro e w' ⟨rfl, ow, hb⟩
    exact ⟨_, rfl, hK.out _ _ (below_next S.bel (Nat.le_refl _) hb) (fun _ => st_4_ff C _ _ _ _ (by kernel_rfl) ((S.next hb).c3 C.hq C.hg ow.row))⟩
  refine AllReadyH.cons rfl (fun K' hK => ?_) ?_
  · rw [if_pos (by rfl)]
    refine wp_of_made run_allocG (hK.out _ _ (below_next S.bel (Nat.le_refl _) (alloc_b _ _)) (fun _ => st_3_tf C _ _ _ _ (by kernel_rfl) ((S.next (alloc_b _ _)).aG C.hq C.hg S.bel.size (nbg0 _) (nbg1 _) (nbgz _) (fun c => absurd c (by omega)))))
  refine AllReadyH.cons rfl (fun K' hK => ?_) ?_
  · rw [if_pos (by rfl)]
    refine wp_of_made run_allocM (hK.out _ _ (below_next S.bel (Nat.le_refl _) (alloc_b _ _)) (fun _ => st_3_ft C _ _ _ _ (by kernel_rfl) ((S.next (alloc_b _ _)).aX C.hq C.hg S.bel.size (nbx0 _) (nbx1 _) (nbz _) (fun c => absurd c (by omega)))))
  exact AllReadyH.nil

theorem st_2_tt (C : RCtx D O B0 a q g fc t0 t1 t2 pos Q) : ∀ x X R lst, lst = #[true, true, true, true, true, false, true, false, false, false, false, false, false, true, true, false, false, false] → RSt D O B0 a q g 2 true true x X R → wpAnyH Try.prog .any (rops fc q g t0 t1 t2 pos) Q (fun W => Below B0.heap.size B0 W) 10 lst x X := by
  rintro x X R lst rfl S
  refine wpAnyH_ready (rs := [5]) (by kernel_rfl) (by simp) ?_
  refine AllReadyH.cons rfl (fun K' hK => ?_) ?_
  · rw [if_pos (by rfl)]
    refine wp_of_enter (run_call1 cf_toMetric rfl S.l2) (toMetric_any D.uo D.u D.ucap D.U D.vo D.v D.vcap D.V C.hu C.hv _ (C.ru.below S.bel (Nat.le_refl _)) (C.rv.below S.bel (Nat.le_refl _))) ?_
    rintro e w' ⟨b, c, rfl, hl, hl2, ow, ow2, hb⟩
    exact ⟨_, rfl, hK.out _ _ (below_next S.bel (Nat.le_refl _) hb) (fun _ => st_3_tt C _ _ _ _ (by kernel_rfl) ((S.next hb).c2 C.hq C.hg ow.row ow2.row))⟩
  exact AllReadyH.nil

theorem st_2_tf (C : RCtx D O B0 a q g fc t0 t1 t2 pos Q) : ∀ x X R lst, lst = #[true, true, true, true, true, false, true, false, false, false, false, false, false, true, false, false, false, false] → RSt D O B0 a q g 2 true false x X R → wpAnyH Try.prog .any (rops fc q g t0 t1 t2 pos) Q (fun W => Below B0.heap.size B0 W) 11 lst x X := by
  rintro x X R lst rfl S
  refine wpAnyH_ready (rs := [5, 14]) (by kernel_rfl) (by simp) ?_
  refine AllReadyH.cons rfl (fun K' hK => ?_) ?_
  · rw [if_pos (by rfl)]
    refine wp_of_enter (run_call1 cf_toMetric rfl S.l2) (toMetric_any D.uo D.u D.ucap D.U D.vo D.v D.vcap D.V C.hu C.hv _ (C.ru.below S.bel (Nat.le_refl _)) (C.rv.below S.bel (Nat.le_refl _))) ?_
    rintro e w' ⟨b, c, rfl, hl, hl2, ow, ow2, hb⟩
    exact ⟨_, rfl, hK.out _ _ (below_next S.bel (Nat.le_refl _) hb) (fun _ => st_3_tf C _ _ _ _ (by kernel_rfl) ((S.next hb).c2 C.hq C.hg ow.row ow2.row))⟩
  refine AllReadyH.cons rfl (fun K' hK => ?_) ?_
  · rw [if_pos (by rfl)]
    refine wp_of_made run_allocM (hK.out _ _ (below_next S.bel (Nat.le_refl _) (alloc_b _ _)) (fun _ => st_2_tt C _ _ _ _ (by kernel_rfl) ((S.next (alloc_b _ _)).aX C.hq C.hg S.bel.size (nbx0 _) (nbx1 _) (nbz _) (fun c => absurd c (by omega)))))
  exact AllReadyH.nil

theorem st_2_ft (C : RCtx D O B0 a q g fc t0 t1 t2 pos Q) : ∀ x X R lst, lst = #[true, true, true, true, true, false, true, false, false, false, false, false, false, false, true, false, false, false] → RSt D O B0 a q g 2 false true x X R → wpAnyH Try.prog .any (rops fc q g t0 t1 t2 pos) Q (fun W => Below B0.heap.size B0 W) 11 lst x X := by
  rintro x X R lst rfl S
  refine wpAnyH_ready (rs := [5, 13]) (by kernel_rfl) (by simp) ?_
  refine AllReadyH.cons rfl (fun K' hK => ?_) ?_
  · rw [if_pos (by rfl)]
    refine wp_of_enter (run_call1 cf_toMetric rfl S.l2) (toMetric_any D.uo D.u D.ucap D.U D.vo D.v D.vcap D.V C.hu C.hv _ (C.ru.below S.bel (Nat.le_refl _)) (C.rv.below S.bel (Nat.le_refl _))) ?_
    rintro e w' ⟨b, c, rfl, hl, hl2, ow, ow2, hb⟩
    exact ⟨_, rfl, hK.out _ _ (below_next S.bel (Nat.le_refl _) hb) (fun _ => st_3_ft C _ _ _ _ (by kernel_rfl) ((S.next hb).c2 C.hq C.hg ow.row ow2.row))⟩
  refine AllReadyH.cons rfl (fun K' hK => ?_) ?_
  · rw [if_pos (by rfl)]
    refine wp_of_made run_allocG (hK.out _ _ (below_next S.bel (Nat.le_refl _) (alloc_b _ _)) (fun _ => st_2_tt C _ _ _ _ (by kernel_rfl) ((S.next (alloc_b _ _)).aG C.hq C.hg S.bel.size (nbg0 _) (nbg1 _) (nbgz _) (fun c => absurd c (by omega)))))
  exact AllReadyH.nil

theorem st_2_ff (C : RCtx D O B0 a q g fc t0 t1 t2 pos Q) : ∀ x X R lst, lst = #[true, true, true, true, true, false, true, false, false, false, false, false, false, false, false, false, false, false] → RSt D O B0 a q g 2 false false x X R → wpAnyH Try.prog .any (rops fc q g t0 t1 t2 pos) Q (fun W => Below B0.heap.size B0 W) 12 lst x X := by
  rintro x X R lst rfl S
  refine wpAnyH_ready (rs := [5, 13, 14]) (by kernel_rfl) (by simp) ?_
  refine AllReadyH.cons rfl (fun K' hK => ?_) ?_
  · rw [if_pos (by rfl)]
    refine wp_of_enter (run_call1 cf_toMetric rfl S.l2) (toMetric_any D.uo D.u D.ucap D.U D.vo D.v D.vcap D.V C.hu C.hv _ (C.ru.below S.bel (Nat.le_refl _)) (C.rv.below S.bel (Nat.le_refl _))) ?_
    rintro e w' ⟨b, c, rfl, hl, hl2, ow, ow2, hb⟩
    exact ⟨_, rfl, hK.out _ _ (below_next S.bel (Nat.le_refl _) hb) (fun _ => st_3_ff C _ _ _ _ (by kernel_rfl) ((S.next hb).c2 C.hq C.hg ow.row ow2.row))⟩
  refine AllReadyH.cons rfl (fun K' hK => ?_) ?_
  · rw [if_pos (by rfl)]
    refine wp_of_made run_allocG (hK.out _ _ (below_next S.bel (Nat.le_refl _) (alloc_b _ _)) (fun _ => st_2_tf C _ _ _ _ (by kernel_rfl) ((S.next (alloc_b _ _)).aG C.hq C.hg S.bel.size (nbg0 _) (nbg1 _) (nbgz _) (fun c => absurd c (by omega)))))
  refine AllReadyH.cons rfl (fun K' hK => ?_) ?_
  · rw [if_pos (by rfl)]
    refine wp_of_made run_allocM (hK.out _ _ (below_next S.bel (Nat.le_refl _) (alloc_b _ _)) (fun _ => st_2_ft C _ _ _ _ (by kernel_rfl) ((S.next (alloc_b _ _)).aX C.hq C.hg S.bel.size (nbx0 _) (nbx1 _) (nbz _) (fun c => absurd c (by omega)))))
  exact AllReadyH.nil

theorem st_1_tt (C : RCtx D O B0 a q g fc t0 t1 t2 pos Q) : ∀ x X R lst, lst = #[true, true, true, false, true, false, true, false, false, false, false, false, false, true, true, false, false, false] → RSt D O B0 a q g 1 true true x X R → wpAnyH Try.prog .any (rops fc q g t0 t1 t2 pos) Q (fun W => Below B0.heap.size B0 W) 11 lst x X := by
  rintro x X R lst rfl S
  refine wpAnyH_ready (rs := [3]) (by kernel_rfl) (by simp) ?_
  refine AllReadyH.cons rfl (fun K' hK => ?_) ?_
  · rw [if_pos (by rfl)]
    refine wp_of_enter (run_call1 cf_toHier rfl S.l1) (toHier_any D.po D.k D.pcap D.P D.eo D.m D.ecap D.L D.H C.hk C.hm _ (C.rp.below S.bel (Nat.le_refl _)) (C.re.below S.bel (Nat.le_refl _))) ?_
    rintro e w' ⟨b, c, rfl, hl, hl2, ow, ow2, hb⟩
    exact ⟨_, rfl, hK.out _ _ (below_next S.bel (Nat.le_refl _) hb) (fun _ => st_2_tt C _ _ _ _ (by kernel_rfl) ((S.next hb).c1 C.hq C.hg ow.row ow2.row))⟩
  exact AllReadyH.nil

theorem st_1_tf (C : RCtx D O B0 a q g fc t0 t1 t2 pos Q) : ∀ x X R lst, lst = #[true, true, true, false, true, false, true, false, false, false, false, false, false, true, false, false, false, false] → RSt D O B0 a q g 1 true false x X R → wpAnyH Try.prog .any (rops fc q g t0 t1 t2 pos) Q (fun W => Below B0.heap.size B0 W) 12 lst x X := by
  rintro x X R lst rfl S
  refine wpAnyH_ready (rs := [3, 14]) (by kernel_rfl) (by simp) ?_
  refine AllReadyH.cons rfl (fun K' hK => ?_) ?_
  · rw [if_pos (by rfl)]
    refine wp_of_enter (run_call1 cf_toHier rfl S.l1) (toHier_any D.po D.k D.pcap D.P D.eo D.m D.ecap D.L D.H C.hk C.hm _ (C.rp.below S.bel (Nat.le_refl _)) (C.re.below S.bel (Nat.le_refl _))) ?_
    rintro e w' ⟨b, c, rfl, hl, hl2, ow, ow2, hb⟩
    exact ⟨_, rfl, hK.out _ _ (below_next S.bel (Nat.le_refl _) hb) (fun _ => st_2_tf C _ _ _ _ (by kernel_rfl) ((S.next hb).c1 C.hq C.hg ow.row ow2.row))⟩
  refine AllReadyH.cons rfl (fun K' hK => ?_) ?_
  · rw [if_pos (by rfl)]
    refine wp_of_made run_allocM (hK.out _ _ (below_next S.bel (Nat.le_refl _) (alloc_b _ _)) (fun _ => st_1_tt C _ _ _ _ (by kernel_rfl) ((S.next (alloc_b _ _)).aX C.hq C.hg S.bel.size (nbx0 _) (nbx1 _) (nbz _) (fun c => absurd c (by omega)))))
  exact AllReadyH.nil

theorem st_1_ft (C : RCtx D O B0 a q g fc t0 t1 t2 pos Q) : ∀ x X R lst, lst = #[true, true, true, false, true, false, true, false, false, false, false, false, false, false, true, false, false, false] → RSt D O B0 a q g 1 false true x X R → wpAnyH Try.prog .any (rops fc q g t0 t1 t2 pos) Q (fun W => Below B0.heap.size B0 W) 12 lst x X := by
  rintro x X R lst rfl S
  refine wpAnyH_ready (rs := [3, 13]) (by kernel_rfl) (by simp) ?_
  refine AllReadyH.cons rfl (fun K' hK => ?_) ?_
  · rw [if_pos (by rfl)]
    refine wp_of_enter (run_call1 cf_toHier rfl S.l1) (toHier_any D.po D.k D.pcap D.P D.eo D.m D.ecap D.L D.H C.hk C.hm _ (C.rp.below S.bel (Nat.le_refl _)) (C.re.below S.bel (Nat.le_refl _))) ?_
    rintro e w' ⟨b, c, rfl, hl, hl2, ow, ow2, hb⟩
    exact ⟨_, rfl, hK.out _ _ (below_next S.bel (Nat.le_refl _) hb) (fun _ => st_2_ft C _ _ _ _ (by kernel_rfl) ((S.next hb).c1 C.hq C.hg ow.row ow2.row))⟩
  refine AllReadyH.cons rfl (fun K' hK => ?_) ?_
  · rw [if_pos (by rfl)]
    refine wp_of_made run_allocG (hK.out _ _ (below_next S.bel (Nat.le_refl _) (alloc_b _ _)) (fun _ => st_1_tt C _ _ _ _ (by kernel_rfl) ((S.next (alloc_b _ _)).aG C.hq C.hg S.bel.size (nbg0 _) (nbg1 _) (nbgz _) (fun c => absurd c (by omega)))))
  exact AllReadyH.nil

theorem st_1_ff (C : RCtx D O B0 a q g fc t0 t1 t2 pos Q) : ∀ x X R lst, lst = #[true, true, true, false, true, false, true, false, false, false, false, false, false, false, false, false, false, false] → RSt D O B0 a q g 1 false false x X R → wpAnyH Try.prog .any (rops fc q g t0 t1 t2 pos) Q (fun W => Below B0.heap.size B0 W) 13 lst x X := by
  rintro x X R lst rfl S
  refine wpAnyH_ready (rs := [3, 13, 14]) (by kernel_rfl) (by simp) ?_
  refine AllReadyH.cons rfl (fun K' hK => ?_) ?_
  · rw [if_pos (by rfl)]
    refine wp_of_enter (run_call1 cf_toHier rfl S.l1) (toHier_any D.po D.k D.pcap D.P D.eo D.m D.ecap D.L D.H C.hk C.hm _ (C.rp.below S.bel (Nat.le_refl _)) (C.re.below S.bel (Nat.le_refl _))) ?_
    rintro e w' ⟨b, c, rfl, hl, hl2, ow, ow2, hb⟩
    exact ⟨_, rfl, hK.out _ _ (below_next S.bel (Nat.le_refl _) hb) (fun _ => st_2_ff C _ _ _ _ (by kernel_rfl) ((S.next hb).c1 C.hq C.hg ow.row ow2.row))⟩
  refine AllReadyH.cons rfl (fun K' hK => ?_) ?_
  · rw [if_pos (by rfl)]
    refine wp_of_made run_allocG (hK.out _ _ (below_next S.bel (Nat.le_refl _) (alloc_b _ _)) (fun _ => st_1_tf C _ _ _ _ (by kernel_rfl) ((S.next (alloc_b _ _)).aG C.hq C.hg S.bel.size (nbg0 _) (nbg1 _) (nbgz _) (fun c => absurd c (by omega)))))
  refine AllReadyH.cons rfl (fun K' hK => ?_) ?_
  · rw [if_pos (by rfl)]
    refine wp_of_made run_allocM (hK.out _ _ (below_next S.bel (Nat.le_refl _) (alloc_b _ _)) (fun _ => st_1_ft C _ _ _ _ (by kernel_rfl) ((S.next (alloc_b _ _)).aX C.hq C.hg S.bel.size (nbx0 _) (nbx1 _) (nbz _) (fun c => absurd c (by omega)))))
  exact AllReadyH.nil

theorem st_0_tt (C : RCtx D O B0 a q g fc t0 t1 t2 pos Q) : ∀ x X R lst, lst = #[true, false, true, false, true, false, true, false, false, false, false, false, false, true, true, false, false, false] → RSt D O B0 a q g 0 true true x X R → wpAnyH Try.prog .any (rops fc q g t0 t1 t2 pos) Q (fun W => Below B0.heap.size B0 W) 12 lst x X := by
  rintro x X R lst rfl S
  refine wpAnyH_ready (rs := [1]) (by kernel_rfl) (by simp) ?_
  refine AllReadyH.cons rfl (fun K' hK => ?_) ?_
  · rw [if_pos (by rfl)]
    refine wp_of_enter (run_call1 cf_toGraph rfl S.l0) (toGraph_any D.p D.ao D.n D.cap D.F D.T D.G C.hn _ (C.rr.below S.bel (Nat.le_refl _))) ?_
    rintro e w' ⟨b, rfl, hl, ow, hb⟩
    exact ⟨_, rfl, hK.out _ _ (below_next S.bel (Nat.le_refl _) hb) (fun _ => st_1_tt C _ _ _ _ (by kernel_rfl) ((S.next hb).c0 C.hq C.hg ow.row))⟩
  exact AllReadyH.nil

theorem st_0_tf (C : RCtx D O B0 a q g fc t0 t1 t2 pos Q) : ∀ x X R lst, lst = #[true, false, true, false, true, false, true, false, false, false, false, false, false, true, false, false, false, false] → RSt D O B0 a q g 0 true false x X R → wpAnyH Try.prog .any (rops fc q g t0 t1 t2 pos) Q (fun W => Below B0.heap.size B0 W) 13 lst x X := by
  rintro x X R lst rfl S
  refine wpAnyH_ready (rs := [1, 14]) (by kernel_rfl) (by simp) ?_
  refine AllReadyH.cons rfl (fun K' hK => ?_) ?_
  · rw [if_pos (by rfl)]
    refine wp_of_enter (run_call1 cf_toGraph rfl S.l0) (toGraph_any D.p D.ao D.n D.cap D.F D.T D.G C.hn _ (C.rr.below S.bel (Nat.le_refl _))) ?_
    rintro e w' ⟨b, rfl, hl, ow, hb⟩
    exact ⟨_, rfl, hK.out _ _ (below_next S.bel (Nat.le_refl _) hb) (fun _ => st_1_tf C _ _ _ _ (by kernel_rfl) ((S.next hb).c0 C.hq C.hg ow.row))⟩
  refine AllReadyH.cons rfl (fun K' hK => ?_) ?_
  · rw [if_pos (by rfl)]
    refine wp_of_made run_allocM (hK.out _ _ (below_next S.bel (Nat.le_refl _) (alloc_b _ _)) (fun _ => st_0_tt C _ _ _ _ (by kernel_rfl) ((S.next (alloc_b _ _)).aX C.hq C.hg S.bel.size (nbx0 _) (nbx1 _) (nbz _) (fun c => absurd c (by omega)))))
  exact AllReadyH.nil

theorem st_0_ft (C : RCtx D O B0 a q g fc t0 t1 t2 pos Q) : ∀ x X R lst, lst = #[true, false, true, false, true, false, true, false, false, false, false, false, false, false, true, false, false, false] → RSt D O B0 a q g 0 false true x X R → wpAnyH Try.prog .any (rops fc q g t0 t1 t2 pos) Q (fun W => Below B0.heap.size B0 W) 13 lst x X := by
  rintro x X R lst rfl S
  refine wpAnyH_ready (rs := [1, 13]) (by kernel_rfl) (by simp) ?_
  refine AllReadyH.cons rfl (fun K' hK => ?_) ?_
  · rw [if_pos (by rfl)]
    refine wp_of_enter (run_call1 cf_toGraph rfl S.l0) (toGraph_any D.p D.ao D.n D.cap D.F D.T D.G C.hn _ (C.rr.below S.bel (Nat.le_refl _))) ?_
    rintro e w' ⟨b, rfl, hl, ow, hb⟩
    exact ⟨_, rfl, hK.out _ _ (below_next S.bel (Nat.le_refl _) hb) (fun _ => st_1_ft C _ _ _ _ (by kernel_rfl) ((S.next hb).c0 C.hq C.hg ow.row))⟩
  refine AllReadyH.cons rfl (fun K' hK => ?_) ?_
  · rw [if_pos (by rfl)]
    refine wp_of_made run_allocG (hK.out _ _ (below_next S.bel (Nat.le_refl _) (alloc_b _ _)) (fun _ => st_0_tt C _ _ _ _ (by kernel_rfl) ((S.next (alloc_b _ _)).aG C.hq C.hg S.bel.size (nbg0 _) (nbg1 _) (nbgz _) (fun c => absurd c (by omega)))))
  exact AllReadyH.nil

theorem st_0_ff (C : RCtx D O B0 a q g fc t0 t1 t2 pos Q) : ∀ x X R lst, lst = #[true, false, true, false, true, false, true, false, false, false, false, false, false, false, false, false, false, false] → RSt D O B0 a q g 0 false false x X R → wpAnyH Try.prog .any (rops fc q g t0 t1 t2 pos) Q (fun W => Below B0.heap.size B0 W) 14 lst x X := by
  rintro x X R lst rfl S
  refine wpAnyH_ready (rs := [1, 13, 14]) (by kernel_rfl) (by simp) ?_
  refine AllReadyH.cons rfl (fun K' hK => ?_) ?_
  · rw [if_pos (by rfl)]
    refine wp_of_enter (run_call1 cf_toGraph rfl S.l0) (toGraph_any D.p D.ao D.n D.cap D.F D.T D.G C.hn _ (C.rr.below S.bel (Nat.le_refl _))) ?_
    rintro e w' ⟨b, rfl, hl, ow, hb⟩
    exact ⟨_, rfl, hK.out _ _ (below_next S.bel (Nat.le_refl _) hb) (fun _ => st_1_ff C _ _ _ _ (by kernel_rfl) ((S.next hb).c0 C.hq C.hg ow.row))⟩
  refine AllReadyH.cons rfl (fun K' hK => ?_) ?_
  · rw [if_pos (by rfl)]
    refine wp_of_made run_allocG (hK.out _ _ (below_next S.bel (Nat.le_refl _) (alloc_b _ _)) (fun _ => st_0_tf C _ _ _ _ (by kernel_rfl) ((S.next (alloc_b _ _)).aG C.hq C.hg S.bel.size (nbg0 _) (nbg1 _) (nbgz _) (fun c => absurd c (by omega)))))
  refine AllReadyH.cons rfl (fun K' hK => ?_) ?_
  · rw [if_pos (by rfl)]
    refine wp_of_made run_allocM (hK.out _ _ (below_next S.bel (Nat.le_refl _) (alloc_b _ _)) (fun _ => st_0_ft C _ _ _ _ (by kernel_rfl) ((S.next (alloc_b _ _)).aX C.hq C.hg S.bel.size (nbx0 _) (nbx1 _) (nbz _) (fun c => absurd c (by omega)))))
  exact AllReadyH.nil

theorem region_rec {id : Nat} {w : World} {b0 b1 b2 : Nat} (C : RCtx D O w.drew a q g fc t0 t1 t2 pos Q) (a3 : a.eval (.tmp 3) = .slice D.so D.s D.scap) (a4 : a.eval (.tmp 4) = .pointer (some ⟨b0, 0, none⟩)) (a5 : a.eval (.tmp 5) = .pointer (some ⟨b1, 0, none⟩)) (a6 : a.eval (.tmp 6) = .pointer (some ⟨b2, 0, none⟩))
    (y00 : w.drew.cell? ⟨b0, 0, none⟩ = some (.int .i64 D.p)) (y01 : w.drew.cell? ⟨b0, 1, none⟩ = some (.slice D.ao D.n D.cap)) (y10 : w.drew.cell? ⟨b1, 0, none⟩ = some (.slice D.po D.k D.pcap)) (y11 : w.drew.cell? ⟨b1, 1, none⟩ = some (.slice D.eo D.m D.ecap)) (y20 : w.drew.cell? ⟨b2, 0, none⟩ = some (.slice D.uo D.u D.ucap)) (y21 : w.drew.cell? ⟨b2, 1, none⟩ = some (.slice D.vo D.v D.vcap)) :
    (Code.region id (rops fc q g t0 t1 t2 pos) true).wp Try.prog Q a w := by
  have hq := C.hq
  have hg := C.hg
  have h6 := C.h6
  refine wp_region_held_drew (S := fun W => Below w.drew.heap.size w.drew W) (by kernel_rfl) (Below.refl _ _) (fun hS => ?_)
  refine takeH 0 (some (q + 1)) (.agg #[.int .i64 D.p, .slice D.ao D.n D.cap]) rfl rfl (by kernel_rfl) (free_at C.FR 0 (by kernel_rfl)) (by kernel_rfl) (fun c a w => C.HQ c a _ _ w) (by rfl) hS (fun W hW => run_loadG a4 (keep_cell hW (Nat.le_refl _) y00) (keep_cell hW (Nat.le_refl _) y01)) ?_
  refine takeH 2 (some (q + 3)) (.agg #[.slice D.po D.k D.pcap, .slice D.eo D.m D.ecap]) rfl rfl (by kernel_rfl) (free_at C.FR 1 (by kernel_rfl)) (by kernel_rfl) (fun c a w => C.HQ c a _ _ w) (by rfl) hS (fun W hW => run_loadH ((put_ne (by omega)).trans a5) (keep_cell hW (Nat.le_refl _) y10) (keep_cell hW (Nat.le_refl _) y11)) ?_
  refine takeH 4 (some (q + 5)) (.agg #[.slice D.uo D.u D.ucap, .slice D.vo D.v D.vcap]) rfl rfl (by kernel_rfl) (free_at C.FR 2 (by kernel_rfl)) (by kernel_rfl) (fun c a w => C.HQ c a _ _ w) (by rfl) hS (fun W hW => run_loadM ((put_ne (by omega)).trans ((put_ne (by omega)).trans a6)) (keep_cell hW (Nat.le_refl _) y20) (keep_cell hW (Nat.le_refl _) y21)) ?_
  refine takeH 6 (some (q + 7)) (.slice D.so D.s D.scap) rfl rfl (by kernel_rfl) (free_at C.FR 3 (by kernel_rfl)) (by kernel_rfl) (fun c a w => C.HQ c a _ _ w) (by rfl) hS (fun W hW => run_move ((put_ne (by omega)).trans ((put_ne (by omega)).trans ((put_ne (by omega)).trans a3)))) ?_
  refine st_0_ff C _ _ ⟨0, 0, 0, 0, 0, 0, 0, none, none, 0, none, 0, none, 0, 0, 0, 0⟩ _ (by kernel_rfl) ⟨hS, by simp only [put_size], rfl, fun j c0 c1 c2 c3 => ?_, ?_, ?_, ?_, ?_, fun c => absurd c (by omega), fun c => absurd c (by omega), fun c => absurd c (by omega), fun c => absurd c (by omega), fun c => absurd c (by omega), fun c => absurd c (by omega), fun c => (by cases c), fun c => (by cases c)⟩
  · rw [put_ne (by omega), put_ne (by omega), put_ne (by omega), put_ne (by omega)]
  · rw [put_ne (by omega), put_ne (by omega), put_ne (by omega), put_same (by omega)]
  · rw [put_ne (by omega), put_ne (by omega), put_same (by rw [put_size]; omega)]
  · rw [put_ne (by omega), put_same (by rw [put_size, put_size]; omega)]
  · rw [put_same (by rw [put_size, put_size, put_size]; omega)]
end

end Go.Proofs.Ytmnohgcjdhokdah
