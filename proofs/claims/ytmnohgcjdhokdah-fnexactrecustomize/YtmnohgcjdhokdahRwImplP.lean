/-
  The program's Reweigh answers the weights that 'resOf' tells, in memory of its own.
-/
import Derived.Test.YtmnohgcjdhokdahCopy3P
import Derived.Deep.Cut
set_option linter.unusedVariables false
set_option linter.unusedSimpArgs false
namespace Go.Proofs.Ytmnohgcjdhokdah
open Go.RowKit Go.Maps
attribute [local go_sem ↓] Go.wp_at_zero Go.wp_at_succ

theorem hit_of {F T : Nat → Int} {a b : Int} {k : Nat} (hF : F k = a) (hT : T k = b) : ∀ n, k < n → hit F T a b n = true
  | 0, h => by omega
  | n + 1, h => by
    by_cases e : k = n
    · subst e; simp [hit, hF, hT]
    · simp [hit, hit_of hF hT n (by omega)]
theorem hit_none {F T : Nat → Int} {a b : Int} : ∀ n, (∀ k, k < n → ¬ (F k = a ∧ T k = b)) → hit F T a b n = false
  | 0, _ => rfl
  | n + 1, h => by
    have := h n (by omega)
    simp [hit, hit_none n (fun k hk => h k (by omega))]
    exact fun e1 e2 => this ⟨e1, e2⟩
theorem put_at {p : Int} {F T G H : Nat → Int} {n k : Nat} {a b c : Int} (hg : arcsB p F T G n = true) (hk : k < n) (hF : F k = a) (hT : T k = b) : ∀ i, i < n → (if i = k then c else H i) = put F T H a b c i := fun i hi => by
  unfold put
  by_cases e : i = k
  · subst e; rw [if_pos rfl, if_pos ⟨hF, hT⟩]
  · rw [if_neg e, if_neg (fun h => e (unique hg hi hk (h.1.trans hF.symm) (h.2.trans hT.symm)))]

/-- What stands in memory while the program's Reweigh goes through the new arcs. -/
structure RwJ (w : World) (p : Int) (ao : Option Addr) (n cap bo g bm : Nat) (F T H : Nat → Int) (wr : World) : Prop where
  o0 : wr.cell? ⟨bo, 0, none⟩ = some (.int .i64 p)
  o1 : wr.cell? ⟨bo, 1, none⟩ = some (.slice (some ⟨g, 0, none⟩) n n)
  has : Has wr g n (ar F T H)
  map : wr.ownsMap Try.prog 130 (plainElem Try.prog 3) bm n (nums F T n)
  bel : Below (w.heap.size + 2) ((w.alloc (.cells #[.int .i64 p, .slice ao n cap] 47)).alloc (.cells #[.int .i64 0, .slice none 0 0] 47)) wr
theorem RwJ.next {w : World} {p : Int} {ao : Option Addr} {n cap bo g bm : Nat} {F T H : Nat → Int} {wr wr' : World} (h : RwJ w p ao n cap bo g bm F T H wr) (hb : Below wr.heap.size wr wr') : RwJ w p ao n cap bo g bm F T H wr' :=
  ⟨keep_cell hb (Nat.le_refl _) h.o0, keep_cell hb (Nat.le_refl _) h.o1, h.has.below hb h.has.lt, ownsMap_below h.map hb, below_next h.bel (by simp) hb⟩
theorem RwJ.weights {w : World} {p : Int} {ao : Option Addr} {n cap bo g bm : Nat} {F T H H' : Nat → Int} {wr : World} (h : RwJ w p ao n cap bo g bm F T H wr) (e : ∀ i, i < n → H i = H' i) : RwJ w p ao n cap bo g bm F T H' wr :=
  ⟨h.o0, h.o1, h.has.weights e, h.map, h.bel⟩
theorem RwJ.store {w : World} {p : Int} {ao : Option Addr} {n cap bo g bm : Nat} {F T H : Nat → Int} {wr : World} (h : RwJ w p ao n cap bo g bm F T H wr) (h1 : w.heap.size + 2 ≤ g) (h2 : bo ≠ g) (h3 : bm ≠ g) (k : Nat) (c : Int) :
    RwJ w p ao n cap bo g bm F T (fun i => if i = k then c else H i) (wr.setCell ⟨g, k * 3 + 2, none⟩ (.int .i64 c)) :=
  ⟨by rw [← h.o0]; exact World.cell?_of_block (Below.heap_setCell _ _ _ _ (by simpa using h2)), by rw [← h.o1]; exact World.cell?_of_block (Below.heap_setCell _ _ _ _ (by simpa using h2)), h.has.weigh k c,
   ownsMap_block h.map (Below.heap_setCell _ _ _ _ (by simpa using h3)), h.bel.setCell (by simpa using h1) _⟩

set_option maxHeartbeats 4000000 in
theorem implReweigh_any (p : Int) (ao : Option Addr) (n cap : Nat) (F T G : Nat → Int) (ao2 : Option Addr) (m cap2 : Nat) (A B C : Nat → Int) (hn : n ≤ 1048576) (hm : m ≤ 1048576) (hwf2 : WfTo A B m) (w : World) (hr : Row w ao n F T G) (hr2 : Row w ao2 m A B C)
    (p' : Int) (n' : Nat) (H' : Nat → Int) (ok : Bool) (hres : IsRes (resOf p n F T G m A B C) p n p' n' H' ok) :
    Calls Try.prog 61 #[.agg #[.int .i64 p, .slice ao n cap], .slice ao2 m cap2] w fun e w' => ∃ ao' cap', e = .returned (.tuple #[.agg #[.int .i64 p', .slice ao' n' cap'], .bool ok]) ∧ OwnS w' w.heap.size ao' n' (ar F T H') ∧ Below w.heap.size w w' := by
  rcases Bool.eq_false_or_eq_true (graphB p n F T G) with h | h
  rotate_left
  · rcases hres with ⟨hr0, _⟩ | ⟨_, rfl, rfl, rfl⟩
    · rw [resOf_bad h] at hr0; cases hr0
    go_enter Try.func61, Try.ntmps61
    go_wp2_with (first | (go_at_call 99; refine (implGraphOk_any p ao n cap F T G hn _ ((hr.alloc _).alloc _)).mono ?_; rintro e w1 ⟨rfl, hb1⟩; obtain ⟨⟨q0, q1⟩, ⟨q2, q3⟩, ⟨q4, q5⟩, q6⟩ := box22 (hb1.mono (by simp))))
    exact bodyPost_ret (v := .tuple #[.agg #[.int .i64 0, .slice none 0 0], .bool false]) (by simp [results, Try.results61, go_sem, q2, q3, q4, q5]) rfl ⟨none, 0, rfl, fun k hk => by omega, (((unbox2 hb1 (by simp; omega)).setCell (by simp) _).setCell (by simp) _)⟩
  have hmk := make_arcs n hn
  go_enter Try.func61, Try.ntmps61
  go_upto_region 3 with (first | (go_at_call 99; refine (implGraphOk_any p ao n cap F T G hn _ ((hr.alloc _).alloc _)).mono ?_; rintro e w1 ⟨rfl, hb1⟩; have hA := hb1.mono (B' := w.heap.size + 2) (by simp); obtain ⟨⟨q0, q1⟩, ⟨q2, q3⟩, ⟨q4, q5⟩, q6⟩ := box22 hA))
  go_cut [6] from 15 (fun v wc => ∃ bo g, v = .pointer (some ⟨bo, 0, none⟩) ∧ bo ≠ g ∧ w1.heap.size ≤ bo ∧ w1.heap.size ≤ g ∧ wc.cell? ⟨bo, 0, none⟩ = some (.int .i64 p) ∧ wc.cell? ⟨bo, 1, none⟩ = some (.slice (some ⟨g, 0, none⟩) n n) ∧ Own wc g n (upto (ar F T G) 0) ∧ Below w1.heap.size w1 wc)
  case first =>
    have q7 : w.heap.size < w1.heap.size := by omega
    have q8 : w.heap.size < w1.heap.size + 1 := by omega
    go_region_held3 (fun w' => w'.cell? ⟨w.heap.size, 0, none⟩ = some (.int .i64 p) ∧ w'.cell? ⟨w.heap.size, 1, none⟩ = some (.slice ao n cap))
      (first | (simp [go_sem, q0, q1, q7, q8]; done) | go_keep)
      (fail)
    all_goals go_wp2
    all_goals go_meet
    all_goals
      first
      | exact ⟨w1.heap.size + 1, w1.heap.size, rfl, by omega, by omega, Nat.le_refl _, by simp [go_sem], by simp [go_sem], World.rowIs.alloc (made_own w1 n _) _, Below.drew (((Below.refl _ _).alloc (Nat.le_refl _) _).alloc (by simp) _)⟩
      | exact ⟨w1.heap.size, w1.heap.size + 1, rfl, by omega, Nat.le_refl _, by omega, by simp [go_sem], by simp [go_sem], by have := made_own (w1.alloc (.cells #[.int .i64 p, .slice (some ⟨w1.heap.size + 1, 0, none⟩) n n] 47)) n (ar F T G); simp at this; exact this, Below.drew (((Below.refl _ _).alloc (Nat.le_refl _) _).alloc (by simp) _)⟩
  case rest =>
    obtain ⟨bo, g, rfl, hne, hbo, hg, o0, o1, hown, hbc⟩ := hcut
    have hAc := below_next hA (by simp) hbc
    obtain ⟨⟨r0, r1⟩, ⟨r2, r3⟩, ⟨r4, r5⟩, r6⟩ := box22 hAc
    have hrc := hr.below (unbox2 hAc (by omega)) (Nat.le_refl _)
    have hwf := wf_small (graphB_p h) (graphB_arcs h).2
    have HG : Hid (arcsB p F T G n = true) := (graphB_arcs h).2
    have HR : Hid (IsRes (rw' F T G A B C n m) p n p' n' H' ok) := by rw [resOf_good h] at hres; exact hres
    clear hres q0 q1 q2 q3 q4 q5 hmk
    go_wp2_with (first | (refine wpList_copy_arcs rfl (.tmp 24) (.tmp 26) rfl g n n ao cap F T G (upto (ar F T G) 0) (by rfl) (by rfl) hrc hown ?_; intro w3 hown3 hgr3; have hA3 := hAc.trans (grown_below hgr3 (B := w.heap.size + 2) (by omega) (by omega)); have o0' := keep_grown hgr3 (by simp; exact hne) o0; have o1' := keep_grown hgr3 (by simp; exact hne) o1; obtain ⟨⟨s0, s1⟩, _⟩ := box22 hA3) | (go_at_call 100; refine (arcNumbers_any p ao n cap F T G hn hwf _ (hr.below (unbox2 hA3 (by omega)) (Nat.le_refl _))).mono ?_; rintro e w4 ⟨rfl, hmap, hb4⟩))
    have hh3 := Has.of_own hown3
    have hgl := hh3.lt
    have hJ : RwJ w p ao n cap bo g (w3.heap.size + 1) F T G w4 := ⟨keep_cell hb4 (Nat.le_refl _) o0', keep_cell hb4 (Nat.le_refl _) o1', hh3.below hb4 hgl, hmap, below_next hA3 (by simp) hb4⟩
    have hg2 : w.heap.size + 2 ≤ g := by omega
    have hbm : w3.heap.size + 1 ≠ g := by omega
    clear hA hAc hA3 hb1 hbc hb4 hmap hown hown3 hh3 hgr3 o0 o1 o0' o1' s0 s1 r0 r1 r2 r3 r4 r5 r6 hrc
    go_loopw [32] (fun x wr => ∃ i : Nat, i ≤ m ∧ x = .int .i64 i ∧ ∃ H, Hid (rw' F T G A B C n i = some H) ∧ RwJ w p ao n cap bo g (w3.heap.size + 1) F T H wr) (fun x _ => m - (intOf x).toNat)
    case atStart => exact ⟨0, Nat.zero_le _, rfl, G, rfl, hJ⟩
    case round =>
      clear hJ
      obtain ⟨i, hi, rfl, H, hrw, hJ⟩ := hrel
      obtain ⟨⟨q0, q1⟩, ⟨q2, q3⟩, ⟨q4, q5⟩, q6'⟩ := box22 hJ.bel
      have o0 := hJ.o0
      have o1 := hJ.o1
      by_cases hlt : i < m
      rotate_left
      · have e : i = m := by omega
        subst e
        go_wp2
        obtain ⟨hr0, rfl, rfl, rfl⟩ | ⟨hr0, _⟩ := HR.out
        rotate_left
        · rw [hrw.out] at hr0; cases hr0
        obtain rfl : H = H' := by rw [hrw.out] at hr0; simpa using hr0
        have hne' : ∀ x : Addr, x.block = w.heap.size + 1 → g ≠ x.block := fun x e => by omega
        refine bodyPost_ret (v := .tuple #[.agg #[.int .i64 p', .slice (some ⟨g, 0, none⟩) n' n'], .bool true]) (by simp [results, Try.results61, go_sem, q2, q3, q4, q5]) rfl ⟨_, n', rfl, fun k hk => ⟨g, rfl, by omega, ?_⟩, ?_⟩
        · exact (hJ.has.of_block (Below.heap_setCell _ _ _ _ (hne' _ rfl))).of_block (Below.heap_setCell _ _ _ _ (hne' _ rfl))
        · exact ((unbox2 hJ.bel (by omega)).setCell (by simp) _).setCell (by simp) _
      obtain ⟨b2, o2, hao2, a0, a1, a2⟩ := (hr2.below (unbox2 hJ.bel (by omega)) (Nat.le_refl _)) i hlt
      subst hao2
      have hkey := key_ends (A i) (B i) (hwf2 i hlt).1 (hwf2 i hlt).2
      rcases nums_look F T (A i) (B i) (hwf2 i hlt).1 (hwf2 i hlt).2 n hwf with ⟨l1, l2⟩ | ⟨k, hk, l1, l2, l3, l4⟩
      · have L2 : Hid (hit F T (A i) (B i) n = false) := hit_none n l2
        clear l2
        go_wp2_with (first | (go_at_call 101; refine (endsOf_any _ _ _ _).mono ?_; rintro e w5 ⟨rfl, hb5⟩; have hJ5 := hJ.next (unbox hb5 (by simp)); have hm5 := hJ5.map; obtain ⟨⟨x0, x1⟩, ⟨x2, x3⟩, ⟨x4, x5⟩, x6⟩ := box22 hJ5.bel) | (at_lookup; refine wpList_lookup_own_ok_int _ rfl _ _ 109 rfl 130 3 .i64 Try.keyLaw Try.underlying109 Try.underlying3 (Try.mapZero _) _ n _ rfl hm5 _ _ rfl hkey ?_; intro cc hat hwc))
        obtain ⟨hr0, _⟩ | ⟨_, rfl, rfl, rfl⟩ := HR.out
        · rw [rw'_none (rw'_no hrw.out (Or.inl L2.out)) m (by omega)] at hr0; cases hr0
        exact bodyPost_ret (v := .tuple #[.agg #[.int .i64 0, .slice none 0 0], .bool false]) (by simp [results, Try.results61, go_sem, x2, x3, x4, x5]) rfl ⟨none, 0, rfl, fun k hk => by omega, ((unbox2 hJ5.bel (by omega)).setCell (by simp) _).setCell (by simp) _⟩
      · have L4 : Hid ((nums F T n).atKey (kl (A i) (B i)) (.lit (.int .i64 0)) = .lit (.int .i64 (k : Int))) := l4
        have L2 : Hid (hit F T (A i) (B i) n = true) := hit_of l1 l2 n hk
        have E1 : Hid (F k = A i) := l1
        have E2 : Hid (T k = B i) := l2
        clear l1 l2 l4
        rcases Bool.eq_false_or_eq_true (inB (C i) 1 1000000) with hc | hc
        · go_wp2_with (first | (go_at_call 101; refine (endsOf_any _ _ _ _).mono ?_; rintro e w5 ⟨rfl, hb5⟩; have hJ5 := hJ.next (unbox hb5 (by simp)); have hm5 := hJ5.map; have y2 := keep_cell hb5 (Nat.le_refl _) (b := wr.heap.size) (o := 2) (by simp [go_sem]; rfl); have y0 := hJ5.o0; have y1 := hJ5.o1; have d2 := hJ5.has.cell (j := k * 3 + 2) (by omega); have z2 := hJ5.has.frozen (k * 3 + 2)) | (at_lookup; refine wpList_lookup_own_ok_int _ rfl _ _ 109 rfl 130 3 .i64 Try.keyLaw Try.underlying109 Try.underlying3 (Try.mapZero _) _ n _ rfl hm5 _ _ rfl hkey ?_; intro cc hat hwc; obtain rfl : cc = (k : Int) := by (rw [L4.out] at hat; simpa using hat.symm)) | (go_at_call 102; refine (weightOk_any _ _).mono ?_; rintro e w6 ⟨rfl, rfl⟩))
          have hS := (hJ5.store hg2 hne hbm k (C i)).weights (put_at HG.out hk E1.out E2.out)
          go_roundw
          case rel => exact ⟨i + 1, by omega, by go_num, _, rw'_yes hrw.out L2.out hc, hS⟩
          case measure => simp [intOf]; omega
        · go_wp2_with (first | (go_at_call 101; refine (endsOf_any _ _ _ _).mono ?_; rintro e w5 ⟨rfl, hb5⟩; have hJ5 := hJ.next (unbox hb5 (by simp)); have hm5 := hJ5.map; have y2 := keep_cell hb5 (Nat.le_refl _) (b := wr.heap.size) (o := 2) (by simp [go_sem]; rfl); obtain ⟨⟨x0, x1⟩, ⟨x2, x3⟩, ⟨x4, x5⟩, x6⟩ := box22 hJ5.bel) | (at_lookup; refine wpList_lookup_own_ok_int _ rfl _ _ 109 rfl 130 3 .i64 Try.keyLaw Try.underlying109 Try.underlying3 (Try.mapZero _) _ n _ rfl hm5 _ _ rfl hkey ?_; intro cc hat hwc; obtain rfl : cc = (k : Int) := by (rw [L4.out] at hat; simpa using hat.symm)) | (go_at_call 102; refine (weightOk_any _ _).mono ?_; rintro e w6 ⟨rfl, rfl⟩))
          obtain ⟨hr0, _⟩ | ⟨_, rfl, rfl, rfl⟩ := HR.out
          · rw [rw'_none (rw'_no hrw.out (Or.inr hc)) m (by omega)] at hr0; cases hr0
          exact bodyPost_ret (v := .tuple #[.agg #[.int .i64 0, .slice none 0 0], .bool false]) (by simp [results, Try.results61, go_sem, x2, x3, x4, x5]) rfl ⟨none, 0, rfl, fun k hk => by omega, ((unbox2 hJ5.bel (by omega)).setCell (by simp) _).setCell (by simp) _⟩

end Go.Proofs.Ytmnohgcjdhokdah
