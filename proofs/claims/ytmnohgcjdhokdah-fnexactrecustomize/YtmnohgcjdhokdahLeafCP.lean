/-
  Two boxes of an answer that are made while its arguments are copied.
-/
import Derived.Test.YtmnohgcjdhokdahLeafBP
import Derived.Test.YtmnohgcjdhokdahPack1
set_option linter.unusedVariables false
set_option linter.unusedSimpArgs false
namespace Go.Proofs.Ytmnohgcjdhokdah
open Go.RowKit

theorem nbg0 (Z : World) : (Z.alloc (.cells #[.int .i64 0, .slice none 0 0] 47)).cell? ⟨Z.heap.size, 0, none⟩ = some (.int .i64 0) := by simp [go_sem]
theorem nbg1 (Z : World) : (Z.alloc (.cells #[.int .i64 0, .slice none 0 0] 47)).cell? ⟨Z.heap.size, 1, none⟩ = some (.slice none 0 0) := by simp [go_sem]
theorem nbgz (Z : World) (o : Nat) : (Z.alloc (.cells #[.int .i64 0, .slice none 0 0] 47)).frozen? ⟨Z.heap.size, o, none⟩ = false := by simp [go_sem]
theorem cell_re2 {X : World} {o o' p p' : Obj} {x q : Nat} {v : Value} (h : ((X.alloc o).alloc p).cell? ⟨x, q, none⟩ = some v) (hx : x < X.heap.size) : ((X.alloc o').alloc p').cell? ⟨x, q, none⟩ = some v := by
  have h1 := (Below.heap_alloc (X.alloc o) p x (by simp; omega)).trans (Below.heap_alloc X o x hx)
  have h2 := (Below.heap_alloc (X.alloc o') p' x (by simp; omega)).trans (Below.heap_alloc X o' x hx)
  simpa [World.cell?, h1, h2] using h
theorem hid_re2 {w X : World} {o o' p p' : Obj} (h : Hid (Below w.heap.size w ((X.alloc o).alloc p))) (hx : w.heap.size ≤ X.heap.size) : Hid (Below w.heap.size w ((X.alloc o').alloc p')) :=
  ⟨h.out.os, h.out.tape, h.out.output, by simp; omega, fun k hk => ((Below.heap_alloc (X.alloc o') p' k (by simp; omega)).trans (Below.heap_alloc X o' k (by omega))).trans (((Below.heap_alloc (X.alloc o) p k (by simp; omega)).trans (Below.heap_alloc X o k (by omega))).symm.trans (h.out.block k hk))⟩
theorem ne_boxes {V : World} {a b : Nat} (h0 : V.cell? ⟨a, 0, none⟩ = some (.int .i64 0)) (h1 : V.cell? ⟨b, 0, none⟩ = some (.slice none 0 0)) : a ≠ b ∧ b ≠ a := by
  constructor <;> (rintro rfl; rw [h0] at h1; cases h1)
theorem cells_over {V : World} {b j : Nat} {v : Value} (h : V.cell? ⟨b, j, none⟩ = some v) (o : Obj) : (V.alloc o).cell? ⟨b, j, none⟩ = some v := keep_cell (alloc_b _ _) (Nat.le_refl _) h
theorem fz_over {V : World} {b : Nat} {v : Value} (h : V.cell? ⟨b, 0, none⟩ = some v) (hz : ∀ o, V.frozen? ⟨b, o, none⟩ = false) (o : Obj) (j : Nat) : (V.alloc o).frozen? ⟨b, j, none⟩ = false := keep_fz (alloc_b _ _) h hz j
theorem size_ret (W : World) (s : Nat) (a c : Value) : ((W.setCell ⟨s, 0, none⟩ a).setCell ⟨s, 1, none⟩ c).heap.size = W.heap.size := by simp [World.setCell]
theorem block_as {W : World} {s x : Nat} {a c : Value} {o o' : Obj} (hx : x < W.heap.size) (hne : x ≠ s) : (((W.setCell ⟨s, 0, none⟩ a).setCell ⟨s, 1, none⟩ c).alloc o').heap[x]? = (W.alloc o).heap[x]? :=
  (Below.heap_alloc _ o' x (by rw [size_ret]; exact hx)).trans ((ret_block a c hne).trans (Below.heap_alloc W o x hx).symm)
theorem cell_as {W : World} {s x q : Nat} {a c v : Value} {o o' : Obj} (h : (W.alloc o).cell? ⟨x, q, none⟩ = some v) (hx : x < W.heap.size) (hne : x ≠ s) : (((W.setCell ⟨s, 0, none⟩ a).setCell ⟨s, 1, none⟩ c).alloc o').cell? ⟨x, q, none⟩ = some v := by
  have h1 := block_as (a := a) (c := c) (o := o) (o' := o') hx hne
  simpa [World.cell?, h1] using h
theorem hid_as {w W : World} {s : Nat} {a c : Value} {o o' : Obj} (h : Hid (Below w.heap.size w (W.alloc o))) (hx : w.heap.size ≤ W.heap.size) (hs : w.heap.size ≤ s) : Hid (Below w.heap.size w (((W.setCell ⟨s, 0, none⟩ a).setCell ⟨s, 1, none⟩ c).alloc o')) :=
  ⟨h.out.os, h.out.tape, h.out.output, by rw [World.size_alloc, size_ret]; omega, fun k hk => (block_as (o := o) (by omega) (by omega)).trans (h.out.block k hk)⟩
theorem block_as2 {W : World} {s x : Nat} {a c a' c' : Value} {o o' : Obj} (hx : x < W.heap.size) (hne : x ≠ s) : (((W.setCell ⟨s, 0, none⟩ a).setCell ⟨s, 1, none⟩ c).alloc o').heap[x]? = (((W.setCell ⟨s, 0, none⟩ a).setCell ⟨s, 1, none⟩ c).alloc o).heap[x]? := (block_as (o := o) hx hne).trans (block_as (o := o) hx hne).symm
theorem hid_allocd {w X : World} (h : Hid (Below w.heap.size w X.drew)) (o : Obj) : Hid (Below w.heap.size w (X.alloc o).drew) := hid_alloc h o
theorem allocd_b (X : World) (o : Obj) : Below X.drew.heap.size X.drew (X.alloc o).drew := alloc_b X.drew o
theorem nbx0d (Z : World) : (Z.alloc (.cells #[.slice none 0 0, .slice none 0 0] 35)).drew.cell? ⟨Z.heap.size, 0, none⟩ = some (.slice none 0 0) := nbx0 Z
theorem nbx1d (Z : World) : (Z.alloc (.cells #[.slice none 0 0, .slice none 0 0] 35)).drew.cell? ⟨Z.heap.size, 1, none⟩ = some (.slice none 0 0) := nbx1 Z
theorem nbzd (Z : World) (o : Nat) : (Z.alloc (.cells #[.slice none 0 0, .slice none 0 0] 35)).drew.frozen? ⟨Z.heap.size, o, none⟩ = false := nbz Z o
theorem nbg0d (Z : World) : (Z.alloc (.cells #[.int .i64 0, .slice none 0 0] 47)).drew.cell? ⟨Z.heap.size, 0, none⟩ = some (.int .i64 0) := nbg0 Z
theorem nbg1d (Z : World) : (Z.alloc (.cells #[.int .i64 0, .slice none 0 0] 47)).drew.cell? ⟨Z.heap.size, 1, none⟩ = some (.slice none 0 0) := nbg1 Z
theorem nbgzd (Z : World) (o : Nat) : (Z.alloc (.cells #[.int .i64 0, .slice none 0 0] 47)).drew.frozen? ⟨Z.heap.size, o, none⟩ = false := nbgz Z o
structure Kont (P : Prop) : Prop where
  out : P
theorem have_kont {P G : Prop} (h : Kont P → G) (k : P) : G := h ⟨k⟩
/-- The two boxes of an answer (Graph, Metric, ..), wherever they were made; all else is as it was behind the call. -/
structure LB2 (V : World) (s1 s2 t1 t2 : Value) (b c : Nat) (X : World) : Prop where
  g0 : X.cell? ⟨b, 0, none⟩ = some s1
  g1 : X.cell? ⟨b, 1, none⟩ = some s2
  x0 : X.cell? ⟨c, 0, none⟩ = some t1
  x1 : X.cell? ⟨c, 1, none⟩ = some t2
  nx : ∀ q, q < V.heap.size → q ≠ b → q ≠ c → X.heap[q]? = V.heap[q]?
  sz : V.heap.size ≤ X.heap.size
  lb : b < X.heap.size
  lc : c < X.heap.size
theorem lb2_ss {V : World} {s1 s2 t1 t2 : Value} {b c : Nat} {v0 v1 u0 u1 : Value} (h0 : V.cell? ⟨b, 0, none⟩ = some v0) (h1 : V.cell? ⟨b, 1, none⟩ = some v1) (k0 : V.cell? ⟨c, 0, none⟩ = some u0) (k1 : V.cell? ⟨c, 1, none⟩ = some u1) (hne : b ≠ c) :
    LB2 V s1 s2 t1 t2 b c ((((V.setCell ⟨b, 0, none⟩ s1).setCell ⟨b, 1, none⟩ s2).setCell ⟨c, 0, none⟩ t1).setCell ⟨c, 1, none⟩ t2) := by
  have L := lb_set (s1 := s1) (s2 := s2) h0 h1
  have k0' := cell_ret (a := s1) (c := s2) k0 hne.symm
  have k1' := cell_ret (a := s1) (c := s2) k1 hne.symm
  have M := lb_set (s1 := t1) (s2 := t2) k0' k1'
  have hs := size_ret V b s1 s2
  have hs2 := size_ret ((V.setCell ⟨b, 0, none⟩ s1).setCell ⟨b, 1, none⟩ s2) c t1 t2
  exact ⟨cell_ret L.c0 hne, cell_ret L.c1 hne, M.c0, M.c1, fun q hq h1 h2 => (M.nx q (by omega) h2).trans (L.nx q hq h1), by omega, by have := lt_of_cell h0; omega, M.lt⟩
theorem lb2_sn {V : World} {s1 s2 t1 t2 : Value} {b : Nat} {v0 v1 : Value} (h0 : V.cell? ⟨b, 0, none⟩ = some v0) (h1 : V.cell? ⟨b, 1, none⟩ = some v1) :
    LB2 V s1 s2 t1 t2 b V.heap.size (((V.setCell ⟨b, 0, none⟩ s1).setCell ⟨b, 1, none⟩ s2).alloc (.cells #[t1, t2] 35)) := by
  have L := lb_set (s1 := s1) (s2 := s2) h0 h1
  have hs := size_ret V b s1 s2
  have hl := lt_of_cell h0
  generalize ((V.setCell ⟨b, 0, none⟩ s1).setCell ⟨b, 1, none⟩ s2) = X at L hs ⊢
  exact ⟨cells_over L.c0 _, cells_over L.c1 _, by rw [← hs]; simp [go_sem], by rw [← hs]; simp [go_sem], fun q hq h1 _ => (Below.heap_alloc X _ q (by omega)).trans (L.nx q hq h1), by simp; omega, by simp; omega, by simp; omega⟩
theorem lb2_ns {V : World} {s1 s2 t1 t2 : Value} {c : Nat} {u0 u1 : Value} (k0 : V.cell? ⟨c, 0, none⟩ = some u0) (k1 : V.cell? ⟨c, 1, none⟩ = some u1) :
    LB2 V s1 s2 t1 t2 V.heap.size c (((V.setCell ⟨c, 0, none⟩ t1).setCell ⟨c, 1, none⟩ t2).alloc (.cells #[s1, s2] 47)) := by
  have L := lb_set (s1 := t1) (s2 := t2) k0 k1
  have hs := size_ret V c t1 t2
  have hl := lt_of_cell k0
  generalize ((V.setCell ⟨c, 0, none⟩ t1).setCell ⟨c, 1, none⟩ t2) = X at L hs ⊢
  exact ⟨by rw [← hs]; simp [go_sem], by rw [← hs]; simp [go_sem], cells_over L.c0 _, cells_over L.c1 _, fun q hq _ h2 => (Below.heap_alloc X _ q (by omega)).trans (L.nx q hq h2), by simp; omega, by simp; omega, by simp; omega⟩
theorem lb2_ns' {V : World} {s1 s2 t1 t2 : Value} {c : Nat} {u0 u1 : Value} (k0 : V.cell? ⟨c, 0, none⟩ = some u0) (k1 : V.cell? ⟨c, 1, none⟩ = some u1) :
    LB2 V s1 s2 t1 t2 V.heap.size c (((V.alloc (.cells #[s1, s2] 47)).setCell ⟨c, 0, none⟩ t1).setCell ⟨c, 1, none⟩ t2) := by
  have L := lb_set (V := V.alloc (.cells #[s1, s2] 47)) (s1 := t1) (s2 := t2) (cells_over k0 _) (cells_over k1 _)
  have hs := size_ret (V.alloc (.cells #[s1, s2] 47)) c t1 t2
  have hl := lt_of_cell k0
  have hz : (V.alloc (.cells #[s1, s2] 47)).heap.size = V.heap.size + 1 := by simp
  exact ⟨cell_ret (by simp [go_sem]) (by omega), cell_ret (by simp [go_sem]) (by omega), L.c0, L.c1, fun q hq _ h2 => (L.nx q (by omega) h2).trans (Below.heap_alloc V _ q hq), by omega, by omega, by omega⟩
theorem lb2_nn {V : World} {s1 s2 t1 t2 : Value} : LB2 V s1 s2 t1 t2 V.heap.size (V.heap.size + 1) ((V.alloc (.cells #[s1, s2] 47)).alloc (.cells #[t1, t2] 35)) := by
  have hz : (V.alloc (.cells #[s1, s2] 47)).heap.size = V.heap.size + 1 := by simp
  exact ⟨cells_over (by simp [go_sem]) _, cells_over (by simp [go_sem]) _, by rw [← hz]; simp [go_sem], by rw [← hz]; simp [go_sem], fun q hq _ _ => (Below.heap_alloc _ _ q (by omega)).trans (Below.heap_alloc V _ q hq), by simp; omega, by simp; omega, by simp⟩
theorem lb2_mm {V : World} {s1 s2 t1 t2 : Value} : LB2 V s1 s2 t1 t2 (V.heap.size + 1) V.heap.size ((V.alloc (.cells #[t1, t2] 35)).alloc (.cells #[s1, s2] 47)) := by
  have hz : (V.alloc (.cells #[t1, t2] 35)).heap.size = V.heap.size + 1 := by simp
  exact ⟨by rw [← hz]; simp [go_sem], by rw [← hz]; simp [go_sem], cells_over (by simp [go_sem]) _, cells_over (by simp [go_sem]) _, fun q hq _ _ => (Below.heap_alloc _ _ q (by omega)).trans (Below.heap_alloc V _ q hq), by simp; omega, by simp, by simp; omega⟩
theorem pickA {V : World} {B n : Nat} {ao : Option Addr} {f : Nat → Int} (h : OwnS V B ao n f) (hs : B < V.heap.size) :
    ∃ b, (0 < n → ao = some ⟨b, 0, none⟩) ∧ (0 < n → Has V b n f) ∧ (B ≤ b ∧ b < V.heap.size) := by
  by_cases hn : 0 < n
  · obtain ⟨b, e, hB, hh⟩ := h 0 hn
    exact ⟨b, fun _ => e, fun _ => hh, hB, hh.lt⟩
  · exact ⟨B, fun h => absurd h hn, fun h => absurd h hn, Nat.le_refl _, hs⟩
theorem has_ihas {W : World} {b n m : Nat} {f g : Nat → Int} (h : Has W b n f) (k : IHas W b m g) : False := by
  obtain ⟨c, h1, _⟩ := h
  obtain ⟨d, h2, _⟩ := k
  rw [h1] at h2
  simp at h2
theorem arow_at {W : World} {ao : Option Addr} {m b : Nat} {F T G : Nat → Int} (ha : 0 < m → ao = some ⟨b, 0, none⟩) (h : 0 < m → Has W b m (ar F T G)) : Row W ao m F T G := fun k hk => by
  rw [ha (by omega)]
  exact (h (by omega)).row k hk
theorem pick3 {V : World} {B n N : Nat} {ao xo yo : Option Addr} {f CU CD : Nat → Int} (h : OwnS V B ao n f) (hx : 0 < N → ∃ b c, xo = some ⟨b, 0, none⟩ ∧ yo = some ⟨c, 0, none⟩ ∧ B ≤ b ∧ B ≤ c ∧ b ≠ c ∧ IHas V b N CU ∧ IHas V c N CD) (hs : B + 3 ≤ V.heap.size) :
    ∃ d b c, (0 < n → ao = some ⟨d, 0, none⟩) ∧ (0 < n → Has V d n f) ∧ (0 < N → xo = some ⟨b, 0, none⟩) ∧ (0 < N → IHas V b N CU) ∧ (0 < N → yo = some ⟨c, 0, none⟩) ∧ (0 < N → IHas V c N CD) ∧ (B ≤ d ∧ d < V.heap.size) ∧ (B ≤ b ∧ b < V.heap.size) ∧ (B ≤ c ∧ c < V.heap.size) ∧ b ≠ c ∧ d ≠ b ∧ d ≠ c := by
  by_cases hn : 0 < n
  · obtain ⟨d, e, hB, hh⟩ := h 0 hn
    by_cases hN : 0 < N
    · obtain ⟨b, c, e1, e2, g1, g2, hne, hR, hS⟩ := hx hN
      exact ⟨d, b, c, fun _ => e, fun _ => hh, fun _ => e1, fun _ => hR, fun _ => e2, fun _ => hS, ⟨hB, hh.lt⟩, ⟨g1, hR.lt⟩, ⟨g2, hS.lt⟩, hne, fun e => has_ihas hh (e ▸ hR), fun e => has_ihas hh (e ▸ hS)⟩
    · have hl := hh.lt
      obtain ⟨b, c, q1, q2, q3, q4, q5, q6, q7⟩ : ∃ b c, B ≤ b ∧ B ≤ c ∧ b < V.heap.size ∧ c < V.heap.size ∧ b ≠ c ∧ d ≠ b ∧ d ≠ c := by
        by_cases h0 : d = B
        · exact ⟨B + 1, B + 2, by omega, by omega, by omega, by omega, by omega, by omega, by omega⟩
        · by_cases h1 : d = B + 1
          · exact ⟨B, B + 2, by omega, by omega, by omega, by omega, by omega, by omega, by omega⟩
          · exact ⟨B, B + 1, by omega, by omega, by omega, by omega, by omega, by omega, by omega⟩
      exact ⟨d, b, c, fun _ => e, fun _ => hh, fun h => absurd h hN, fun h => absurd h hN, fun h => absurd h hN, fun h => absurd h hN, ⟨hB, hl⟩, ⟨q1, q3⟩, ⟨q2, q4⟩, q5, q6, q7⟩
  · by_cases hN : 0 < N
    · obtain ⟨b, c, e1, e2, g1, g2, hne, hR, hS⟩ := hx hN
      have hl1 := hR.lt
      have hl2 := hS.lt
      obtain ⟨d, q1, q2, q3, q4⟩ : ∃ d, B ≤ d ∧ d < V.heap.size ∧ d ≠ b ∧ d ≠ c := by
        by_cases h0 : b ≠ B ∧ c ≠ B
        · exact ⟨B, by omega, by omega, by omega, by omega⟩
        · by_cases h1 : b ≠ B + 1 ∧ c ≠ B + 1
          · exact ⟨B + 1, by omega, by omega, by omega, by omega⟩
          · exact ⟨B + 2, by omega, by omega, by omega, by omega⟩
      exact ⟨d, b, c, fun h => absurd h hn, fun h => absurd h hn, fun _ => e1, fun _ => hR, fun _ => e2, fun _ => hS, ⟨q1, q2⟩, ⟨g1, hl1⟩, ⟨g2, hl2⟩, hne, q3, q4⟩
    · exact ⟨B, B + 1, B + 2, fun h => absurd h hn, fun h => absurd h hn, fun h => absurd h hN, fun h => absurd h hN, fun h => absurd h hN, fun h => absurd h hN, by omega, by omega, by omega, by omega, by omega, by omega⟩
/-- What lies there behind a call that answers a map and a metric. -/
structure L2 (B0 : World) (p : Int) (n : Nat) (f : Nat → Int) (N : Nat) (CU CD : Nat → Int) (X : World) (b c : Nat) (ao : Option Addr) (cap : Nat) (xo : Option Addr) (xc : Nat) (yo : Option Addr) (yc : Nat) (d x y : Nat) : Prop where
  bel : Below B0.heap.size B0 X
  ea : 0 < n → ao = some ⟨d, 0, none⟩
  ha : 0 < n → Has X d n f
  ex : 0 < N → xo = some ⟨x, 0, none⟩
  hx : 0 < N → IHas X x N CU
  ey : 0 < N → yo = some ⟨y, 0, none⟩
  hy : 0 < N → IHas X y N CD
  g0 : X.cell? ⟨b, 0, none⟩ = some (.int .i64 p)
  g1 : X.cell? ⟨b, 1, none⟩ = some (.slice ao n cap)
  x0 : X.cell? ⟨c, 0, none⟩ = some (.slice xo N xc)
  x1 : X.cell? ⟨c, 1, none⟩ = some (.slice yo N yc)
  gb : B0.heap.size ≤ b ∧ b < X.heap.size
  gc : B0.heap.size ≤ c ∧ c < X.heap.size
  gd : B0.heap.size ≤ d ∧ d < X.heap.size
  gx : B0.heap.size ≤ x ∧ x < X.heap.size
  gy : B0.heap.size ≤ y ∧ y < X.heap.size
theorem l2_of {B0 V X : World} {p : Int} {n N b c cap xc yc d x y : Nat} {f CU CD : Nat → Int} {ao xo yo : Option Addr} (L : LB2 V (.int .i64 p) (.slice ao n cap) (.slice xo N xc) (.slice yo N yc) b c X) (hb : Hid (Below B0.heap.size B0 X))
    (ea : 0 < n → ao = some ⟨d, 0, none⟩) (ha : 0 < n → Has V d n f) (ex : 0 < N → xo = some ⟨x, 0, none⟩) (hx : 0 < N → IHas V x N CU) (ey : 0 < N → yo = some ⟨y, 0, none⟩) (hy : 0 < N → IHas V y N CD)
    (g : B0.heap.size ≤ b ∧ B0.heap.size ≤ c ∧ B0.heap.size ≤ d ∧ B0.heap.size ≤ x ∧ B0.heap.size ≤ y ∧ d < V.heap.size ∧ x < V.heap.size ∧ y < V.heap.size ∧ d ≠ b ∧ d ≠ c ∧ x ≠ b ∧ x ≠ c ∧ y ≠ b ∧ y ≠ c) :
    L2 B0 p n f N CU CD X b c ao cap xo xc yo yc d x y := by
  obtain ⟨g1, g2, g3, g4, g5, g6, g7, g8, n1, n2, n3, n4, n5, n6⟩ := g
  have hs := L.sz
  exact ⟨hb.out, ea, fun h => (ha h).of_block (L.nx _ g6 n1 n2), ex, fun h => (hx h).of_block (L.nx _ g7 n3 n4), ey, fun h => (hy h).of_block (L.nx _ g8 n5 n6), L.g0, L.g1, L.x0, L.x1, ⟨g1, L.lb⟩, ⟨g2, L.lc⟩, ⟨g3, by omega⟩, ⟨g4, by omega⟩, ⟨g5, by omega⟩⟩
theorem use_kont {R : World → Nat → Nat → Option Addr → Nat → Option Addr → Nat → Option Addr → Nat → Nat → Nat → Nat → Prop} {Q : World → Nat → Nat → Option Addr → Nat → Option Addr → Nat → Option Addr → Nat → Nat → Nat → Nat → Nat → Nat → Nat → Nat → Nat → Value → Prop} (HK : Kont (∀ X b c ao cap xo xc yo yc d x y s0 s1 t1 s2 t2 va, R X b c ao cap xo xc yo yc d x y → Q X b c ao cap xo xc yo yc d x y s0 s1 t1 s2 t2 va))
    (X : World) (b c : Nat) (ao : Option Addr) (cap : Nat) (xo : Option Addr) (xc : Nat) (yo : Option Addr) (yc d x y s0 s1 t1 s2 t2 : Nat) (va : Value) (h : R X b c ao cap xo xc yo yc d x y) : Q X b c ao cap xo xc yo yc d x y s0 s1 t1 s2 t2 va := HK.out X b c ao cap xo xc yo yc d x y s0 s1 t1 s2 t2 va h

end Go.Proofs.Ytmnohgcjdhokdah
