/-
  The document's draw of a map and a path.
-/
import Derived.Test.YtkmkkdjacdcojaaDrawDist
import Derived.Test.YtkmkkdjacdcojaaInts
set_option linter.unusedVariables false
set_option linter.unusedSimpArgs false
namespace Go.Proofs.Ytkmkkdjacdcojaa
open Go.RowKit Go.Maps
attribute [local go_sem ↓] Go.wp_at_zero Go.wp_at_succ

/-- What stands while a path is drawn beside a map. -/
structure LW (w : World) (base c : Nat) (ao : Option Addr) (n cap : Nat) (gb ub : Nat) (p : Int) (go : Option Addr) (k gc : Nat) (F T G : Nat → Int) (pg m pc : Nat) (W : World) : Prop where
  cur : CurAt W base c ao n cap
  res : VHas W w.heap.size 26 2 (grV 0 (.slice none 0 0))
  box : VHas W gb 26 2 (grV p (.slice go k gc))
  row : Row W go k F T G
  path : ∃ f, IOwn W ub pg pc m f
  bel : Below w.heap.size w W
/-- Where things lie. -/
structure LP (w : World) (c gb ub : Nat) (go : Option Addr) (k : Nat) : Prop where
  hc : w.heap.size < c ∧ c < gb ∧ gb < ub
  hg : ∀ a, go = some a → 0 < k → c < a.block ∧ a.block < gb
theorem Row.other {w w' : World} {ao : Option Addr} {n : Nat} {F T G : Nat → Int} {row : Option Nat} (h : Row w ao n F T G) (hg : w.grownBy w' row) (hB : ∀ a, ao = some a → 0 < n → some a.block ≠ row) : Row w' ao n F T G := fun k hk => by
  obtain ⟨b', o, e, c0, c1, c2⟩ := h k hk
  have hne := hB _ e (by omega)
  exact ⟨b', o, e, hg.cell c0 hne, hg.cell c1 hne, hg.cell c2 hne⟩
theorem LW.step {w : World} {base c : Nat} {ao : Option Addr} {n cap gb ub : Nat} {p : Int} {go : Option Addr} {k gc : Nat} {F T G : Nat → Int} {pg m pc : Nat} {W W' : World} (h : LW w base c ao n cap gb ub p go k gc F T G pg m pc W) (hp : LP w c gb ub go k) (hC : CurAt W' base c ao n cap) (hg : W.grownBy W' (some c)) : LW w base c ao n cap gb ub p go k gc F T G pg m pc W' := by
  obtain ⟨f, hf⟩ := h.path
  have hb := hf.base
  have h1 := hp.hc
  exact ⟨hC, h.res.grown hg (by simp; omega), h.box.grown hg (by simp; omega), h.row.other hg (fun a e hk => by have := hp.hg a e hk; simp; omega), ⟨f, hf.grown hg (by omega)⟩, h.bel.trans (gr_below hg (by omega) h.bel.size)⟩
theorem LW.next {w : World} {base c : Nat} {ao : Option Addr} {n cap gb ub : Nat} {p : Int} {go : Option Addr} {k gc : Nat} {F T G : Nat → Int} {pg m pc : Nat} {W W' : World} (h : LW w base c ao n cap gb ub p go k gc F T G pg m pc W) (hb : Below W.heap.size W W') : LW w base c ao n cap gb ub p go k gc F T G pg m pc W' := by
  obtain ⟨f, hf⟩ := h.path
  exact ⟨h.cur.next hb, h.res.next hb, h.box.next hb, h.row.below hb (Nat.le_refl _), ⟨f, hf.below hb hf.lt⟩, below_next h.bel (Nat.le_refl _) hb⟩
/-- Behind an append to the path. -/
theorem LW.longer {w : World} {base c : Nat} {ao : Option Addr} {n cap gb ub : Nat} {p : Int} {go : Option Addr} {k gc : Nat} {F T G : Nat → Int} {pg m pc : Nat} {W W' : World} (h : LW w base c ao n cap gb ub p go k gc F T G pg m pc W) (hp : LP w c gb ub go k) (hg : W.grownBy W' (some pg)) (hpg : ub ≤ pg) {pg' m' pc' : Nat} (hf : ∃ f, IOwn W' ub pg' pc' m' f) : LW w base c ao n cap gb ub p go k gc F T G pg' m' pc' W' := by
  have h1 := hp.hc
  have hge := h.cur.ge
  exact ⟨h.cur.grown hg (by omega) (by omega), h.res.grown hg (by simp; omega), h.box.grown hg (by simp; omega), h.row.other hg (fun a e hk => by have := hp.hg a e hk; simp; omega), hf, h.bel.trans (gr_below hg (by omega) h.bel.size)⟩

theorem Drawn.alloc {w w' : World} {ao : Option Addr} {n : Nat} (h : Drawn w w' ao n) (o : Obj) : Drawn w (w'.alloc o) ao n := by
  obtain ⟨F, T, G, hr, hg⟩ := h
  exact ⟨F, T, G, hr.alloc o, hg⟩
theorem LW.out {w : World} {base c : Nat} {ao : Option Addr} {n cap gb ub : Nat} {p : Int} {go : Option Addr} {k gc : Nat} {F T G : Nat → Int} {pg m pc : Nat} {W : World} (h : LW w base c ao n cap gb ub p go k gc F T G pg m pc W) (hp : LP w c gb ub go k) (v0 v1 : Value) :
    Drawn w ((W.setCell ⟨w.heap.size, 0, none⟩ v0).setCell ⟨w.heap.size, 1, none⟩ v1) go k ∧ ((∃ f, IRow ((W.setCell ⟨w.heap.size, 0, none⟩ v0).setCell ⟨w.heap.size, 1, none⟩ v1) (some ⟨pg, 0, none⟩) m f) ∧ m ≤ pc) ∧ Below w.heap.size w ((W.setCell ⟨w.heap.size, 0, none⟩ v0).setCell ⟨w.heap.size, 1, none⟩ v1) := by
  have hs := (gr_setCell W w.heap.size 0 v0).trans (gr_setCell _ w.heap.size 1 v1)
  have h1 := hp.hc
  obtain ⟨f, hf⟩ := h.path
  have hb := hf.base
  refine ⟨⟨F, T, G, h.row.other hs (fun a e hk => by have := hp.hg a e hk; simp; omega), fun a e hk => by have := hp.hg a e hk; omega⟩, ⟨⟨f, (hf.has.grown hs (by simp; omega)).row⟩, hf.room⟩, (h.bel.setCell (p := ⟨w.heap.size, 0, none⟩) (Nat.le_refl _) v0).setCell (p := ⟨w.heap.size, 1, none⟩) (Nat.le_refl _) v1⟩

set_option maxRecDepth 100000 in
set_option maxHeartbeats 8000000 in
theorem drawLength_any (ao : Option Addr) (n cap : Nat) (hn : n ≤ 4096) (w : World) (hr : ByRow w w.heap.size ao n) :
    Calls Try.prog 21 #[.slice ao n cap] w fun e w' => ∃ (p : Int) (go : Option Addr) (k gc pg m pc : Nat), e = .returned (.tuple #[.agg #[.int .i64 p, .slice go k gc], .slice (some ⟨pg, 0, none⟩) m pc]) ∧ k ≤ 200 ∧ m ≤ 201 ∧ Drawn w w' go k ∧ ((∃ f, IRow w' (some ⟨pg, 0, none⟩) m f) ∧ m ≤ pc) ∧ Below w.heap.size w w' := by
  have hal0 := (Below.refl w.heap.size w).alloc (Nat.le_refl _) (.cells #[.int .i64 0, .slice none 0 0] 26)
  have hr0 : ByRow (w.alloc (.cells #[.int .i64 0, .slice none 0 0] 26)) (w.alloc (.cells #[.int .i64 0, .slice none 0 0] 26)).heap.size ao n := fun k hk => by
    obtain ⟨b, o, v, e, hb, hc⟩ := (hr.below hal0 (Nat.le_refl _)) k hk
    exact ⟨b, o, v, e, by simp; omega, hc⟩
  go_enter Try.func21, Try.ntmps21
  go_wp2_with fail
  refine (l1New_any ao n cap hn _ hr0).mono ?_
  rintro e w1 ⟨c, rfl, hC1, hb1⟩
  have hcg := hC1.ge
  simp only [World.size_alloc] at hcg hC1 hb1
  have hcl1 := hC1.lt
  have hrb1 := (gr_new w 0 (.slice none 0 0)).below hb1 (by omega)
  have hbel1 : Below w.heap.size w w1 := hal0.trans (hb1.mono (by omega))
  go_wp2_with fail
  refine (l1DrawAny_any _ c ao n cap _ hC1).mono ?_
  rintro e w3 ⟨p, go, k, gc, rfl, hk, hO3, hC3, hg3⟩
  have hs3 := hg3.size
  obtain ⟨F, T, G, hrow3, hblk⟩ := hO3.row
  have hP : LP w c w3.heap.size (w3.heap.size + 1) go k := ⟨by omega, fun a e h0 => by
    obtain ⟨g, e', hg'⟩ := hblk h0
    subst e
    have h2 := (hO3.at (x := a.block) (by simp [Value.ownBlock])).2
    have h3 := (hO3.at (x := a.block) (by simp [Value.ownBlock])).1
    omega⟩
  have hL4 : LW w (w.heap.size + 1) c ao n cap w3.heap.size (w3.heap.size + 1) p go k gc F T G (w3.heap.size + 1) 0 0 ((w3.alloc (.cells #[.int .i64 p, .slice go k gc] 26)).alloc (.cells #[] 2)) := by
    have ha := (Below.refl w3.heap.size w3).alloc (Nat.le_refl _) (.cells #[.int .i64 p, .slice go k gc] 26)
    refine ⟨(hC3.next ha).next ((Below.refl _ _).alloc (Nat.le_refl _) _), ((hrb1.grown hg3 (by simp; omega)).alloc _).alloc _, (gr_new w3 _ _).alloc _, (hrow3.alloc _).alloc _, ⟨fun _ => 0, ?_⟩, ?_⟩
    · simpa using IOwn.empty (w3.alloc (.cells #[.int .i64 p, .slice go k gc] 26)) (base := w3.heap.size + 1) (by simp) (fun _ => 0)
    · have hb := hbel1.size
      exact ((hbel1.trans (gr_below hg3 (by omega) hbel1.size)).alloc (by omega) _).alloc (by simp; omega) _
  clear hC3 hg3 hO3 hbel1 hrb1 hal0 hr0 hC1 hb1 hrow3 hblk
  go_wp2_with fail
  refine (l1Below_any _ c ao n cap 4 (by omega) (by omega) _ hL4.cur).mono ?_
  rintro e w5 ⟨x, rfl, hx, hC5, hg5⟩
  have hL5 := hL4.step hP hC5 hg5
  clear hL4 hC5 hg5
  go_wp2_with fail
  refine (l1Below_any _ c ao n cap 6 (by omega) (by omega) _ hL5.cur).mono ?_
  rintro e w6 ⟨y, rfl, hy, hC6, hg6⟩
  have hL6 := hL5.step hP hC6 hg6
  clear hL5 hC6 hg6
  go_wp2_with fail
  go_loopw [6, 7, 8] (fun s a b wr => ∃ (j m pg pc : Nat) (z : Int), j ≤ 5 ∧ m + j ≤ 5 ∧ s = .slice (some ⟨pg, 0, none⟩) m pc ∧ a = .int .i64 z ∧ b = .int .i64 j ∧ LW w (w.heap.size + 1) c ao n cap w3.heap.size (w3.heap.size + 1) p go k gc F T G pg m pc wr) (fun _ _ b _ => (intOf b).toNat)
  case atStart => exact ⟨y, 0, _, 0, x, by omega, by omega, rfl, rfl, rfl, hL6⟩
  case round =>
    clear hL6
    obtain ⟨j, m, pg, pc, z, hj, hmj, rfl, rfl, rfl, hL⟩ := hrel
    by_cases hlt : 0 < j
    rotate_left
    · have hj0 : ¬ 0 < (j : Int) := by omega
      go_wp2_with fail
      refine (l1Once_any _ c ao n cap 40 (by omega) (by omega) _ hL.cur).mono ?_
      rintro e w7 ⟨bx, rfl, hC7, hg7⟩
      have hL7 := hL.step hP hC7 hg7
      clear hL hC7 hg7
      cases bx
      · skip
        have b0 : w7.cell? ⟨w3.heap.size, 0, none⟩ = some (.int .i64 p) := hL7.box.cell (j := 0) (by omega)
        have b1 : w7.cell? ⟨w3.heap.size, 1, none⟩ = some (.slice go k gc) := hL7.box.cell (j := 1) (by omega)
        have r0 : w7.cell? ⟨w.heap.size, 0, none⟩ = some (.int .i64 0) := hL7.res.cell (j := 0) (by omega)
        have r1 : w7.cell? ⟨w.heap.size, 1, none⟩ = some (.slice none 0 0) := hL7.res.cell (j := 1) (by omega)
        have y0 := hL7.res.frozen 0
        have y1 := hL7.res.frozen 1
        obtain ⟨q0, q1, q2⟩ := res_cells hL7.res p (.slice go k gc)
        obtain ⟨o1, o2, o3⟩ := hL7.out hP (.int .i64 p) (.slice go k gc)
        go_wp2
        exact bodyPost_ret (v := .tuple #[.agg #[.int .i64 p, .slice go k gc], .slice (some ⟨pg, 0, none⟩) m pc]) (by simp [results, Try.results21, go_sem, q0, q1, q2]) rfl ⟨p, go, k, gc, pg, m, pc, rfl, hk, by omega, o1, o2, o3⟩
      · go_wp2_with fail
        refine (l1Below_any _ c ao n cap 2 (by omega) (by omega) _ hL7.cur).mono ?_
        rintro e w8 ⟨x2, rfl, hx2, hC8, hg8⟩
        have hL8 := hL7.step hP hC8 hg8
        clear hL7 hC8 hg8
        have b0 : w8.cell? ⟨w3.heap.size, 0, none⟩ = some (.int .i64 p) := hL8.box.cell (j := 0) (by omega)
        have b1 : w8.cell? ⟨w3.heap.size, 1, none⟩ = some (.slice go k gc) := hL8.box.cell (j := 1) (by omega)
        have r0 : w8.cell? ⟨w.heap.size, 0, none⟩ = some (.int .i64 0) := hL8.res.cell (j := 0) (by omega)
        have r1 : w8.cell? ⟨w.heap.size, 1, none⟩ = some (.slice none 0 0) := hL8.res.cell (j := 1) (by omega)
        have y0 := hL8.res.frozen 0
        have y1 := hL8.res.frozen 1
        have hrl := hL8.res.lt
        have hbl := hL8.box.lt
        obtain ⟨q0, q1, q2⟩ := res_cells hL8.res p (.slice go k gc)
        obtain ⟨o1, _, o3⟩ := hL8.out hP (.int .i64 p) (.slice go k gc)
        clear hL8
        have hx22 : x2 = 0 ∨ x2 = 1 := by omega
        rcases hx22 with rfl | rfl
        · have hmk : ∀ W : World, (Instr.makeSlice 40 (.int .i64 200) (.int .i64 200)).run Try.prog W = .ok (.slice (some ⟨W.heap.size, 0, none⟩) 200 200) (W.alloc (.cells (madeCells #[.int .i64 0] 200) 2)) := make_ints 200 (by omega)
          go_wp2
          have hI := (made_ints ((w8.setCell ⟨w.heap.size, 0, none⟩ (.int .i64 p)).setCell ⟨w.heap.size, 1, none⟩ (.slice go k gc)) 200).row
          rw [show ((w8.setCell ⟨w.heap.size, 0, none⟩ (.int .i64 p)).setCell ⟨w.heap.size, 1, none⟩ (.slice go k gc)).heap.size = w8.heap.size by simp [World.setCell]] at hI
          exact bodyPost_ret (v := .tuple #[.agg #[.int .i64 p, .slice go k gc], .slice (some ⟨w8.heap.size, 0, none⟩) 200 200]) (by simp [results, Try.results21, go_sem, q0, q1, q2, hrl]) rfl ⟨p, go, k, gc, w8.heap.size, 200, 200, rfl, hk, by omega, o1.alloc _, ⟨⟨_, hI⟩, Nat.le_refl _⟩, o3.alloc o3.size _⟩
        · have hmk : ∀ W : World, (Instr.makeSlice 40 (.int .i64 201) (.int .i64 201)).run Try.prog W = .ok (.slice (some ⟨W.heap.size, 0, none⟩) 201 201) (W.alloc (.cells (madeCells #[.int .i64 0] 201) 2)) := make_ints 201 (by omega)
          go_wp2
          have hI := (made_ints ((w8.setCell ⟨w.heap.size, 0, none⟩ (.int .i64 p)).setCell ⟨w.heap.size, 1, none⟩ (.slice go k gc)) 201).row
          rw [show ((w8.setCell ⟨w.heap.size, 0, none⟩ (.int .i64 p)).setCell ⟨w.heap.size, 1, none⟩ (.slice go k gc)).heap.size = w8.heap.size by simp [World.setCell]] at hI
          exact bodyPost_ret (v := .tuple #[.agg #[.int .i64 p, .slice go k gc], .slice (some ⟨w8.heap.size, 0, none⟩) 201 201]) (by simp [results, Try.results21, go_sem, q0, q1, q2, hrl]) rfl ⟨p, go, k, gc, w8.heap.size, 201, 201, rfl, hk, by omega, o1.alloc _, ⟨⟨_, hI⟩, Nat.le_refl _⟩, o3.alloc o3.size _⟩
    have hlt' : 0 < (j : Int) := by omega
    obtain ⟨f, hf⟩ := hL.path
    have hfb := hf.base
    have hfl := hf.lt
    go_wp2_with (at_builtin; refine wpList_append_int rfl _ _ rfl (w3.heap.size + 1) pg pc m f rfl (by exact hf.below ((Below.refl _ _).alloc (Nat.le_refl _) _) hfl) ⟨wr.heap.size, 0, none⟩ 1 z rfl (by simp [go_sem]) (by omega) (by simp; omega) ?_; intro pg' pc' w7 hown7 hgrow7 hat7)
    have hL7 := (hL.next ((Below.refl _ wr).alloc (Nat.le_refl _) (.cells #[.int .i64 z] 2))).longer hP hgrow7 hfb ⟨_, hown7 (fun i => if i = m then z else f i) (fun i hi => if_neg (by omega)) (if_pos rfl)⟩
    clear hL hf hown7 hgrow7 hat7
    go_wp2_with fail
    refine (l1DrawPlace_any _ c ao n cap _ hL7.cur).mono ?_
    rintro e w8 ⟨z2, rfl, hC8, hg8⟩
    have hL8 := hL7.step hP hC8 hg8
    clear hL7 hC8 hg8
    go_wp2_with fail
    go_loopw [9, 10] (fun a b wr2 => ∃ (i : Nat) (z' : Int), i ≤ k ∧ a = .int .i64 z' ∧ b = .int .i64 i ∧ LW w (w.heap.size + 1) c ao n cap w3.heap.size (w3.heap.size + 1) p go k gc F T G pg' (m + 1) pc' wr2) (fun _ b _ => k - (intOf b).toNat)
    case atStart => exact ⟨0, z2, Nat.zero_le _, rfl, rfl, hL8⟩
    case round =>
      clear hL8
      obtain ⟨i, z', hi, rfl, rfl, hL⟩ := hrel
      have b1 : wr.cell? ⟨w3.heap.size, 1, none⟩ = some (.slice go k gc) := hL.box.cell (j := 1) (by omega)
      by_cases hik : i < k
      rotate_left
      · have hik' : ¬ (i : Int) < (k : Int) := by omega
        go_wp2
        go_roundw
        case rel => exact ⟨j - 1, m + 1, pg', pc', z', by omega, by omega, rfl, rfl, by go_num, hL⟩
        case measure => simp [intOf]; omega
      have hik' : (i : Int) < (k : Int) := by omega
      obtain ⟨ab, aoff, hao, e0, e1, e2⟩ := hL.row i hik
      subst hao
      by_cases hFz : F i = z
      · subst hFz
        go_wp2_with fail
        refine (l1Once_any _ c ao n cap 3 (by omega) (by omega) _ hL.cur).mono ?_
        rintro e w9 ⟨bx, rfl, hC9, hg9⟩
        have hL9 := hL.step hP hC9 hg9
        clear hL hC9 hg9 b1 e0 e1 e2
        obtain ⟨ab', aoff', hao, e0, e1, e2⟩ := hL9.row i hik
        cases hao
        have b1 : w9.cell? ⟨w3.heap.size, 1, none⟩ = some (.slice (some ⟨ab, aoff, none⟩) k gc) := hL9.box.cell (j := 1) (by omega)
        cases bx
        · go_wp2
          go_roundw
          case rel => exact ⟨i + 1, z', by omega, rfl, by go_num, hL9⟩
          case measure => simp [intOf]; omega
        · go_wp2
          go_roundw
          case rel => exact ⟨i + 1, T i, by omega, rfl, by go_num, hL9⟩
          case measure => simp [intOf]; omega
      · go_wp2
        go_roundw
        case rel => exact ⟨i + 1, z', by omega, rfl, by go_num, hL⟩
        case measure => simp [intOf]; omega

end Go.Proofs.Ytkmkkdjacdcojaa
