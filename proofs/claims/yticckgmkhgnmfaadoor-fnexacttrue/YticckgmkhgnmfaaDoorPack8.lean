/-
  Helpers, merged: RwImpl, StrL, MText, StrM, CopyA, Copy, EqA, Eq, OpenA, Open, HasA, HasLaw.
-/
import Derived.Test.YticckgmkhgnmfaaDoorPack7
import Derived.Deep.Cut
import Derived.Test.YticckgmkhgnmfaaDoorPack5
import Derived.Test.YticckgmkhgnmfaaDoorPack1
import Derived.Test.YticckgmkhgnmfaaDoorPack2
import Derived.Deep.QuietTactic
import Derived.BigQuiet
import Derived.Laws.BytesArg
import Derived.Test.YticckgmkhgnmfaaDoorPack6
import Derived.Deep.DrawnRows
/-
  The program's Reweigh answers the weights that 'resOf' tells, in memory of its own.
-/
set_option linter.unusedVariables false
set_option linter.unusedSimpArgs false
namespace Go.Proofs.YticckgmkhgnmfaaDoor
open Go.RowKit Go.Maps
attribute [local go_sem ↓] Go.wp_at_zero Go.wp_at_succ

theorem hit_of {F T : Nat → Int} {a b : Int} {k : Nat} (hF : F k = a) (hT : T k = b) : ∀ n, k < n → hit F T a b n = true
  | 0, h => by omega
  | n + 1, h => by
    by_cases e : k = n
    · subst e; simp [hit, hF, hT]
    · simp [hit, hit_of hF hT n (by omega)]
theorem hit_none {F T : Nat → Int} {a b : Int} : ∀ n, (∀ k, k < n → ¬ (F k = a ∧ T k = b)) → hit F T a b n = false
  | 0, _ => rfl
  | n + 1, h => by
    have := h n (by omega)
    simp [hit, hit_none n (fun k hk => h k (by omega))]
    exact fun e1 e2 => this ⟨e1, e2⟩
theorem put_at {p : Int} {F T G H : Nat → Int} {n k : Nat} {a b c : Int} (hg : arcsB p F T G n = true) (hk : k < n) (hF : F k = a) (hT : T k = b) : ∀ i, i < n → (if i = k then c else H i) = put F T H a b c i := fun i hi => by
  unfold put
  by_cases e : i = k
  · subst e; rw [if_pos rfl, if_pos ⟨hF, hT⟩]
  · rw [if_neg e, if_neg (fun h => e (unique hg hi hk (h.1.trans hF.symm) (h.2.trans hT.symm)))]

/-- What stands in memory while the program's Reweigh goes through the new arcs. -/
structure RwJ (w : World) (p : Int) (ao : Option Addr) (n cap bo g bm : Nat) (F T H : Nat → Int) (wr : World) : Prop where
  o0 : wr.cell? ⟨bo, 0, none⟩ = some (.int .i64 p)
  o1 : wr.cell? ⟨bo, 1, none⟩ = some (.slice (some ⟨g, 0, none⟩) n n)
  has : Has wr g n (ar F T H)
  map : wr.ownsMap Tryd.prog 93 (plainElem Tryd.prog 3) bm n (nums F T n)
  bel : Below (w.heap.size + 2) ((w.alloc (.cells #[.int .i64 p, .slice ao n cap] 40)).alloc (.cells #[.int .i64 0, .slice none 0 0] 40)) wr
theorem RwJ.next {w : World} {p : Int} {ao : Option Addr} {n cap bo g bm : Nat} {F T H : Nat → Int} {wr wr' : World} (h : RwJ w p ao n cap bo g bm F T H wr) (hb : Below wr.heap.size wr wr') : RwJ w p ao n cap bo g bm F T H wr' :=
  ⟨keep_cell hb (Nat.le_refl _) h.o0, keep_cell hb (Nat.le_refl _) h.o1, h.has.below hb h.has.lt, ownsMap_below h.map hb, below_next h.bel (by simp) hb⟩
theorem RwJ.weights {w : World} {p : Int} {ao : Option Addr} {n cap bo g bm : Nat} {F T H H' : Nat → Int} {wr : World} (h : RwJ w p ao n cap bo g bm F T H wr) (e : ∀ i, i < n → H i = H' i) : RwJ w p ao n cap bo g bm F T H' wr :=
  ⟨h.o0, h.o1, h.has.weights e, h.map, h.bel⟩
theorem RwJ.store {w : World} {p : Int} {ao : Option Addr} {n cap bo g bm : Nat} {F T H : Nat → Int} {wr : World} (h : RwJ w p ao n cap bo g bm F T H wr) (h1 : w.heap.size + 2 ≤ g) (h2 : bo ≠ g) (h3 : bm ≠ g) (k : Nat) (c : Int) :
    RwJ w p ao n cap bo g bm F T (fun i => if i = k then c else H i) (wr.setCell ⟨g, k * 3 + 2, none⟩ (.int .i64 c)) :=
  ⟨by rw [← h.o0]; exact World.cell?_of_block (Below.heap_setCell _ _ _ _ (by simpa using h2)), by rw [← h.o1]; exact World.cell?_of_block (Below.heap_setCell _ _ _ _ (by simpa using h2)), h.has.weigh k c,
   ownsMap_block h.map (Below.heap_setCell _ _ _ _ (by simpa using h3)), h.bel.setCell (by simpa using h1) _⟩

set_option maxHeartbeats 4000000 in
theorem implReweigh_any (p : Int) (ao : Option Addr) (n cap : Nat) (F T G : Nat → Int) (ao2 : Option Addr) (m cap2 : Nat) (A B C : Nat → Int) (hn : n ≤ 1048576) (hm : m ≤ 1048576) (hwf2 : WfTo A B m) (w : World) (hr : Row w ao n F T G) (hr2 : Row w ao2 m A B C)
    (p' : Int) (n' : Nat) (H' : Nat → Int) (ok : Bool) (hres : IsRes (resOf p n F T G m A B C) p n p' n' H' ok) :
    Calls Tryd.prog 40 #[.agg #[.int .i64 p, .slice ao n cap], .slice ao2 m cap2] w fun e w' => ∃ ao' cap', e = .returned (.tuple #[.agg #[.int .i64 p', .slice ao' n' cap'], .bool ok]) ∧ OwnS w' w.heap.size ao' n' (ar F T H') ∧ Below w.heap.size w w' := by
  rcases Bool.eq_false_or_eq_true (graphB p n F T G) with h | h
  rotate_left
  · rcases hres with ⟨hr0, _⟩ | ⟨_, rfl, rfl, rfl⟩
    · rw [resOf_bad h] at hr0; cases hr0
    go_enter Tryd.func40, Tryd.ntmps40
    go_wp2_with (first | (go_at_call 38; refine (implGraphOk_any p ao n cap F T G hn _ ((hr.alloc _).alloc _)).mono ?_; rintro e w1 ⟨rfl, hb1⟩; obtain ⟨⟨q0, q1⟩, ⟨q2, q3⟩, ⟨q4, q5⟩, q6⟩ := box22 (hb1.mono (by simp))))
    exact bodyPost_ret (v := .tuple #[.agg #[.int .i64 0, .slice none 0 0], .bool false]) (by simp [results, Tryd.results40, go_sem, q2, q3, q4, q5]) rfl ⟨none, 0, rfl, fun k hk => by omega, (((unbox2 hb1 (by simp; omega)).setCell (by simp) _).setCell (by simp) _)⟩
  have hmk := make_arcs n hn
  go_enter Tryd.func40, Tryd.ntmps40
  go_upto_region 3 with (first | (go_at_call 38; refine (implGraphOk_any p ao n cap F T G hn _ ((hr.alloc _).alloc _)).mono ?_; rintro e w1 ⟨rfl, hb1⟩; have hA := hb1.mono (B' := w.heap.size + 2) (by simp); obtain ⟨⟨q0, q1⟩, ⟨q2, q3⟩, ⟨q4, q5⟩, q6⟩ := box22 hA))
  go_cut [6] from 15 (fun v wc => ∃ bo g, v = .pointer (some ⟨bo, 0, none⟩) ∧ bo ≠ g ∧ w1.heap.size ≤ bo ∧ w1.heap.size ≤ g ∧ wc.cell? ⟨bo, 0, none⟩ = some (.int .i64 p) ∧ wc.cell? ⟨bo, 1, none⟩ = some (.slice (some ⟨g, 0, none⟩) n n) ∧ Own wc g n (upto (ar F T G) 0) ∧ Below w1.heap.size w1 wc)
  case first =>
    have q7 : w.heap.size < w1.heap.size := by omega
    have q8 : w.heap.size < w1.heap.size + 1 := by omega
    go_region_held3 (fun w' => w'.cell? ⟨w.heap.size, 0, none⟩ = some (.int .i64 p) ∧ w'.cell? ⟨w.heap.size, 1, none⟩ = some (.slice ao n cap))
      (first | (simp [go_sem, q0, q1, q7, q8]; done) | go_keep)
      (fail)
    all_goals go_wp2
    all_goals go_meet
    all_goals
      first
      | exact ⟨w1.heap.size + 1, w1.heap.size, rfl, by omega, by omega, Nat.le_refl _, by simp [go_sem], by simp [go_sem], World.rowIs.alloc (made_own w1 n _) _, Below.drew (((Below.refl _ _).alloc (Nat.le_refl _) _).alloc (by simp) _)⟩
      | exact ⟨w1.heap.size, w1.heap.size + 1, rfl, by omega, Nat.le_refl _, by omega, by simp [go_sem], by simp [go_sem], by have := made_own (w1.alloc (.cells #[.int .i64 p, .slice (some ⟨w1.heap.size + 1, 0, none⟩) n n] 40)) n (ar F T G); simp at this; exact this, Below.drew (((Below.refl _ _).alloc (Nat.le_refl _) _).alloc (by simp) _)⟩
  case rest =>
    obtain ⟨bo, g, rfl, hne, hbo, hg, o0, o1, hown, hbc⟩ := hcut
    have hAc := below_next hA (by simp) hbc
    obtain ⟨⟨r0, r1⟩, ⟨r2, r3⟩, ⟨r4, r5⟩, r6⟩ := box22 hAc
    have hrc := hr.below (unbox2 hAc (by omega)) (Nat.le_refl _)
    have hwf := wf_small (graphB_p h) (graphB_arcs h).2
    have HG : Hid (arcsB p F T G n = true) := (graphB_arcs h).2
    have HR : Hid (IsRes (rw' F T G A B C n m) p n p' n' H' ok) := by rw [resOf_good h] at hres; exact hres
    clear hres q0 q1 q2 q3 q4 q5 hmk
    go_wp2_with (first | (refine wpList_copy_arcs rfl (.tmp 24) (.tmp 26) rfl g n n ao cap F T G (upto (ar F T G) 0) (by rfl) (by rfl) hrc hown ?_; intro w3 hown3 hgr3; have hA3 := hAc.trans (grown_below hgr3 (B := w.heap.size + 2) (by omega) (by omega)); have o0' := keep_grown hgr3 (by simp; exact hne) o0; have o1' := keep_grown hgr3 (by simp; exact hne) o1; obtain ⟨⟨s0, s1⟩, _⟩ := box22 hA3) | (go_at_call 66; refine (arcNumbers_any p ao n cap F T G hn hwf _ (hr.below (unbox2 hA3 (by omega)) (Nat.le_refl _))).mono ?_; rintro e w4 ⟨rfl, hmap, hb4⟩))
    have hh3 := Has.of_own hown3
    have hgl := hh3.lt
    have hJ : RwJ w p ao n cap bo g (w3.heap.size + 1) F T G w4 := ⟨keep_cell hb4 (Nat.le_refl _) o0', keep_cell hb4 (Nat.le_refl _) o1', hh3.below hb4 hgl, hmap, below_next hA3 (by simp) hb4⟩
    have hg2 : w.heap.size + 2 ≤ g := by omega
    have hbm : w3.heap.size + 1 ≠ g := by omega
    clear hA hAc hA3 hb1 hbc hb4 hmap hown hown3 hh3 hgr3 o0 o1 o0' o1' s0 s1 r0 r1 r2 r3 r4 r5 r6 hrc
    go_loopw [32] (fun x wr => ∃ i : Nat, i ≤ m ∧ x = .int .i64 i ∧ ∃ H, Hid (rw' F T G A B C n i = some H) ∧ RwJ w p ao n cap bo g (w3.heap.size + 1) F T H wr) (fun x _ => m - (intOf x).toNat)
    case atStart => exact ⟨0, Nat.zero_le _, rfl, G, rfl, hJ⟩
    case round =>
      clear hJ
      obtain ⟨i, hi, rfl, H, hrw, hJ⟩ := hrel
      obtain ⟨⟨q0, q1⟩, ⟨q2, q3⟩, ⟨q4, q5⟩, q6'⟩ := box22 hJ.bel
      have o0 := hJ.o0
      have o1 := hJ.o1
      by_cases hlt : i < m
      rotate_left
      · have e : i = m := by omega
        subst e
        go_wp2
        obtain ⟨hr0, rfl, rfl, rfl⟩ | ⟨hr0, _⟩ := HR.out
        rotate_left
        · rw [hrw.out] at hr0; cases hr0
        obtain rfl : H = H' := by rw [hrw.out] at hr0; simpa using hr0
        have hne' : ∀ x : Addr, x.block = w.heap.size + 1 → g ≠ x.block := fun x e => by omega
        refine bodyPost_ret (v := .tuple #[.agg #[.int .i64 p', .slice (some ⟨g, 0, none⟩) n' n'], .bool true]) (by simp [results, Tryd.results40, go_sem, q2, q3, q4, q5]) rfl ⟨_, n', rfl, fun k hk => ⟨g, rfl, by omega, ?_⟩, ?_⟩
        · exact (hJ.has.of_block (Below.heap_setCell _ _ _ _ (hne' _ rfl))).of_block (Below.heap_setCell _ _ _ _ (hne' _ rfl))
        · exact ((unbox2 hJ.bel (by omega)).setCell (by simp) _).setCell (by simp) _
      obtain ⟨b2, o2, hao2, a0, a1, a2⟩ := (hr2.below (unbox2 hJ.bel (by omega)) (Nat.le_refl _)) i hlt
      subst hao2
      have hkey := key_ends (A i) (B i) (hwf2 i hlt).1 (hwf2 i hlt).2
      rcases nums_look F T (A i) (B i) (hwf2 i hlt).1 (hwf2 i hlt).2 n hwf with ⟨l1, l2⟩ | ⟨k, hk, l1, l2, l3, l4⟩
      · have L2 : Hid (hit F T (A i) (B i) n = false) := hit_none n l2
        clear l2
        go_wp2_with (first | (go_at_call 61; refine (endsOf_any _ _ _ _).mono ?_; rintro e w5 ⟨rfl, hb5⟩; have hJ5 := hJ.next (unbox hb5 (by simp)); have hm5 := hJ5.map; obtain ⟨⟨x0, x1⟩, ⟨x2, x3⟩, ⟨x4, x5⟩, x6⟩ := box22 hJ5.bel) | (at_lookup; refine wpList_lookup_own_ok_int _ rfl _ _ 99 rfl 93 3 .i64 Tryd.keyLaw Tryd.underlying99 Tryd.underlying3 (Tryd.mapZero _) _ n _ rfl hm5 _ _ rfl hkey ?_; intro cc hat hwc))
        obtain ⟨hr0, _⟩ | ⟨_, rfl, rfl, rfl⟩ := HR.out
        · rw [rw'_none (rw'_no hrw.out (Or.inl L2.out)) m (by omega)] at hr0; cases hr0
        exact bodyPost_ret (v := .tuple #[.agg #[.int .i64 0, .slice none 0 0], .bool false]) (by simp [results, Tryd.results40, go_sem, x2, x3, x4, x5]) rfl ⟨none, 0, rfl, fun k hk => by omega, ((unbox2 hJ5.bel (by omega)).setCell (by simp) _).setCell (by simp) _⟩
      · have L4 : Hid ((nums F T n).atKey (kl (A i) (B i)) (.lit (.int .i64 0)) = .lit (.int .i64 (k : Int))) := l4
        have L2 : Hid (hit F T (A i) (B i) n = true) := hit_of l1 l2 n hk
        have E1 : Hid (F k = A i) := l1
        have E2 : Hid (T k = B i) := l2
        clear l1 l2 l4
        rcases Bool.eq_false_or_eq_true (inB (C i) 1 1000000) with hc | hc
        · go_wp2_with (first | (go_at_call 61; refine (endsOf_any _ _ _ _).mono ?_; rintro e w5 ⟨rfl, hb5⟩; have hJ5 := hJ.next (unbox hb5 (by simp)); have hm5 := hJ5.map; have y2 := keep_cell hb5 (Nat.le_refl _) (b := wr.heap.size) (o := 2) (by simp [go_sem]; rfl); have y0 := hJ5.o0; have y1 := hJ5.o1; have d2 := hJ5.has.cell (j := k * 3 + 2) (by omega); have z2 := hJ5.has.frozen (k * 3 + 2)) | (at_lookup; refine wpList_lookup_own_ok_int _ rfl _ _ 99 rfl 93 3 .i64 Tryd.keyLaw Tryd.underlying99 Tryd.underlying3 (Tryd.mapZero _) _ n _ rfl hm5 _ _ rfl hkey ?_; intro cc hat hwc; obtain rfl : cc = (k : Int) := by (rw [L4.out] at hat; simpa using hat.symm)) | (go_at_call 67; refine (weightOk_any _ _).mono ?_; rintro e w6 ⟨rfl, rfl⟩))
          have hS := (hJ5.store hg2 hne hbm k (C i)).weights (put_at HG.out hk E1.out E2.out)
          go_roundw
          case rel => exact ⟨i + 1, by omega, by go_num, _, rw'_yes hrw.out L2.out hc, hS⟩
          case measure => simp [intOf]; omega
        · go_wp2_with (first | (go_at_call 61; refine (endsOf_any _ _ _ _).mono ?_; rintro e w5 ⟨rfl, hb5⟩; have hJ5 := hJ.next (unbox hb5 (by simp)); have hm5 := hJ5.map; have y2 := keep_cell hb5 (Nat.le_refl _) (b := wr.heap.size) (o := 2) (by simp [go_sem]; rfl); obtain ⟨⟨x0, x1⟩, ⟨x2, x3⟩, ⟨x4, x5⟩, x6⟩ := box22 hJ5.bel) | (at_lookup; refine wpList_lookup_own_ok_int _ rfl _ _ 99 rfl 93 3 .i64 Tryd.keyLaw Tryd.underlying99 Tryd.underlying3 (Tryd.mapZero _) _ n _ rfl hm5 _ _ rfl hkey ?_; intro cc hat hwc; obtain rfl : cc = (k : Int) := by (rw [L4.out] at hat; simpa using hat.symm)) | (go_at_call 67; refine (weightOk_any _ _).mono ?_; rintro e w6 ⟨rfl, rfl⟩))
          obtain ⟨hr0, _⟩ | ⟨_, rfl, rfl, rfl⟩ := HR.out
          · rw [rw'_none (rw'_no hrw.out (Or.inr hc)) m (by omega)] at hr0; cases hr0
          exact bodyPost_ret (v := .tuple #[.agg #[.int .i64 0, .slice none 0 0], .bool false]) (by simp [results, Tryd.results40, go_sem, x2, x3, x4, x5]) rfl ⟨none, 0, rfl, fun k hk => by omega, ((unbox2 hJ5.bel (by omega)).setCell (by simp) _).setCell (by simp) _⟩

end Go.Proofs.YticckgmkhgnmfaaDoor

/-
  Lists of texts: copied, held beside each other, measured.
-/
set_option linter.unusedVariables false
set_option linter.unusedSimpArgs false
namespace Go.Proofs.YticckgmkhgnmfaaDoor
open Go.ChangeShapes Go.WideShapes Go.ChangeAt Go.RowKit Go.Deep Go.Joins
attribute [local go_sem ↓] Go.wp_at_zero Go.wp_at_succ

theorem Tryd.infoStrS : (Tryd.prog.info? 9).map (fun i => (i.zero, i.size, i.bytes)) = some (some (.string ByteArray.empty), 1, 16) := by kernel_rfl
theorem make_strs (n : Nat) (hn : n ≤ 1048576) (w : World) :
    (Instr.makeSlice 34 (.int .i64 (n : Int)) (.int .i64 (n : Int))).run Tryd.prog w = .ok (.slice (some ⟨w.heap.size, 0, none⟩) n n) (w.alloc (.cells (madeCells #[.string ByteArray.empty] n) 9)) :=
  run_make_row' 34 9 _ 16 Tryd.underlying34 Tryd.infoStrS rfl .i64 .i64 n (by omega) (by omega) w
theorem made_strs (w : World) (n : Nat) : StHas (w.alloc (.cells (madeCells #[.string ByteArray.empty] n) 9)) w.heap.size n (fun _ => ByteArray.empty) := VHas.of_row (World.rowIs_made w _ n _)
set_option maxHeartbeats 800000 in
theorem toStringS_any (ao : Option Addr) (n cap : Nat) (S : Nat → ByteArray) (hn : n ≤ 1048576) (w : World) (hr : SRow w ao n S) :
    Calls Tryd.prog 14 #[.slice ao n cap] w fun e w' => e = .returned (.slice (some ⟨w.heap.size, 0, none⟩) n n) ∧ StHas w' w.heap.size n S ∧ Below w.heap.size w w' := by
  have hmk := make_strs n hn
  go_enter Tryd.func14, Tryd.ntmps14
  go_wp2
  clear hmk
  go_loopw [4] (fun i wr => ∃ k : Nat, k ≤ n ∧ i = .int .i64 k ∧ StHas wr w.heap.size n (fun j => if j < k then S j else ByteArray.empty) ∧ Below w.heap.size w wr) (fun i _ => n - (intOf i).toNat)
  case atStart => exact ⟨0, Nat.zero_le _, rfl, made_strs w n, (Below.refl _ _).alloc (Nat.le_refl _) _⟩
  case round =>
    obtain ⟨k, hk, rfl, hown, hbel⟩ := hrel
    by_cases hlt : k < n
    · obtain ⟨b, o, hao, c0⟩ := (hr.below hbel (Nat.le_refl _)) k hlt
      subst hao
      have d0 := hown.cell hlt
      have z0 := hown.frozen k
      have R := hown.set k (.string (S k))
      have Sx := hbel.setCell (p := ⟨w.heap.size, k, none⟩) (Nat.le_refl _) (.string (S k))
      clear hown
      go_wp2
      go_roundw
      case rel =>
        refine ⟨k + 1, by omega, by go_num, R.congr (fun j hj => ?_), Sx⟩
        by_cases e : j = k
        · subst e; simp
        · simp only [if_neg e]
          by_cases hl : j < k
          · rw [if_pos hl, if_pos (by omega)]
          · rw [if_neg hl, if_neg (by omega)]
      case measure => simp [intOf]; omega
    · have hkn : k = n := by omega
      subst hkn
      go_wp2
      go_ret
      exact ⟨rfl, hown.congr (fun j hj => by simp [hj]), hbel⟩
set_option maxHeartbeats 800000 in
theorem eqStringS_same (ao ao' : Option Addr) (n cap cap' : Nat) (S : Nat → ByteArray) (hn : n ≤ 1048576) (w : World) (hr : SRow w ao n S) (hr' : SRow w ao' n S) :
    Calls Tryd.prog 16 #[.slice ao n cap, .slice ao' n cap'] w fun e w' => e = .returned (.bool true) ∧ Below w.heap.size w w' := by
  go_enter Tryd.func16, Tryd.ntmps16
  go_wp2
  go_loopw [5] (fun i wr => ∃ k : Nat, k ≤ n ∧ i = .int .i64 k ∧ Below w.heap.size w wr) (fun i _ => n - (intOf i).toNat)
  case atStart => exact ⟨0, Nat.zero_le _, rfl, Below.refl _ _⟩
  case round =>
    obtain ⟨k, hk, rfl, hbel⟩ := hrel
    by_cases hlt : k < n
    rotate_left
    · have hkn : k = n := by omega
      subst hkn
      go_wp2
      go_ret
      exact ⟨rfl, hbel⟩
    obtain ⟨b, o, hao, c0⟩ := (hr.below hbel (Nat.le_refl _)) k hlt
    obtain ⟨b', o', hao', d0⟩ := (hr'.below hbel (Nat.le_refl _)) k hlt
    subst hao
    subst hao'
    have hk1 : (0 : Int) ≤ (k : Int) := by omega
    have hk2 : (k : Int) < (n : Int) := by omega
    go_wp2
    go_quiet (fail)
    go_wp2
    go_roundw
    case rel => exact ⟨k + 1, by omega, by go_num, below_drewN hbel _⟩
    case measure => simp [intOf]; omega
set_option maxHeartbeats 800000 in
theorem szStringS_each (ao : Option Addr) (n cap : Nat) (S : Nat → ByteArray) (l : Int) (h0 : 0 ≤ l) (hl : l ≤ 1048576) (hn : n ≤ 9223372036854775807) (hS : ∀ k, k < n → (S k).size ≤ 9223372036854775807) (w : World) (hr : SRow w ao n S) :
    Calls Tryd.prog 11 #[.slice ao n cap, .int .i64 l] w fun e w' => ∃ r : Int, e = .returned (.int .i64 r) ∧ (0 ≤ r → (n : Int) ≤ l ∧ ∀ j, j < n → (S j).size ≤ 1048576) ∧ w' = w := by
  by_cases hnl : l < (n : Int)
  · have h1 : l - (n : Int) < 0 := by omega
    go_enter Tryd.func11, Tryd.ntmps11
    go_wp2
    go_ret
    exact ⟨-1, rfl, fun h => by omega, rfl⟩
  have h1 : ¬ l - (n : Int) < 0 := by omega
  go_enter Tryd.func11, Tryd.ntmps11
  go_wp2
  go_loopw [1, 5] (fun q i wr => ∃ (k : Nat) (z : Int), k ≤ n ∧ 0 ≤ z ∧ z ≤ 1048576 ∧ q = .int .i64 z ∧ i = .int .i64 k ∧ wr = w ∧ Hid (∀ j, j < k → (S j).size ≤ 1048576)) (fun _ i _ => n - (intOf i).toNat)
  case atStart => exact ⟨0, l - n, Nat.zero_le _, by omega, by omega, rfl, rfl, rfl, fun j hj => by omega⟩
  case round =>
    obtain ⟨k, z, hk, hz0, hz1, rfl, rfl, rfl, HE⟩ := hrel
    by_cases hlt : k < n
    rotate_left
    · have hkn : k = n := by omega
      subst hkn
      go_wp2
      go_ret
      exact ⟨z, rfl, fun _ => ⟨by omega, HE.out⟩, rfl⟩
    obtain ⟨b, o, hao, c0⟩ := hr k hlt
    subst hao
    have hs := hS k hlt
    have hw9 : IntKind.i64.wrap (z - ((S k).size : Int)) = z - ((S k).size : Int) := by rw [IntKind.wrap_i64]; omega
    have hk2 : (k : Int) < (n : Int) := by omega
    by_cases hneg : z - ((S k).size : Int) < 0
    · go_wp2
      go_ret
      exact ⟨-1, rfl, fun h => by omega, rfl⟩
    · go_wp2
      go_roundw
      case rel => exact ⟨k + 1, z - (S k).size, by omega, by omega, by omega, rfl, by go_num, by first | rfl | trivial, fun j hj => by
        by_cases q : j = k
        · subst q; omega
        · exact HE.out j (by omega)⟩
      case measure => simp [intOf]; omega
theorem szStringS_any (ao : Option Addr) (n cap : Nat) (S : Nat → ByteArray) (l : Int) (h0 : 0 ≤ l) (hl : l ≤ 1048576) (hn : n ≤ 9223372036854775807) (hS : ∀ k, k < n → (S k).size ≤ 9223372036854775807) (w : World) (hr : SRow w ao n S) :
    Calls Tryd.prog 11 #[.slice ao n cap, .int .i64 l] w fun e w' => ∃ r : Int, e = .returned (.int .i64 r) ∧ (0 ≤ r → (n : Int) ≤ l) ∧ w' = w :=
  (szStringS_each ao n cap S l h0 hl hn hS w hr).mono fun e w' ⟨r, h1, h2, h3⟩ => ⟨r, h1, fun h => (h2 h).1, h3⟩

end Go.Proofs.YticckgmkhgnmfaaDoor

/-
  markText, the laws' own: the text of a number.
-/
set_option linter.unusedVariables false
set_option linter.unusedSimpArgs false
namespace Go.Proofs.YticckgmkhgnmfaaDoor
open Go.RowKit
attribute [local go_sem ↓] Go.wp_at_zero Go.wp_at_succ

/-- The digits of k ahead of out. -/
def mdg (k : Nat) (out : ByteArray) : ByteArray := if h : k = 0 then out else mdg (k / 10) ({ data := #[UInt8.ofNat (48 + k % 10)] } ++ out)
termination_by k
decreasing_by omega
theorem mdg_zero (out : ByteArray) : mdg 0 out = out := by unfold mdg; rfl
theorem mdg_pos {k : Nat} (h : 0 < k) (out : ByteArray) : mdg k out = mdg (k / 10) ({ data := #[UInt8.ofNat (48 + k % 10)] } ++ out) := by
  rw [mdg]
  rw [dif_neg (by omega)]
def mtx (k : Nat) : ByteArray := { data := #[109] } ++ mdg k ByteArray.empty

set_option maxRecDepth 100000 in
set_option maxHeartbeats 1000000 in
theorem markText_any (k : Nat) (h0 : 0 < k) (hk : k ≤ 1000000000) (w : World) :
    Calls Tryd.prog 45 #[.int .i64 k] w fun e w' => e = .returned (.string (mtx k)) ∧ Below w.heap.size w w' := by
  have h1 : ¬ (k : Int) ≤ 0 := by omega
  unfold mtx
  generalize hM : mdg k ByteArray.empty = M
  go_enter Tryd.func45, Tryd.ntmps45
  go_wp2
  go_loopw [0, 3] (fun q s wr => ∃ (r : Nat) (o : ByteArray), q = .int .i64 r ∧ s = .string o ∧ mdg r o = M ∧ o.size + r ≤ 1000000000 ∧ Below w.heap.size w wr) (fun q _ _ => (intOf q).toNat)
  case atStart => exact ⟨k, ByteArray.empty, rfl, rfl, hM, by simpa using hk, Below.refl _ _⟩
  case round =>
    obtain ⟨r, o, rfl, rfl, hm, hr, hbel⟩ := hrel
    by_cases hz : 0 < r
    rotate_left
    · obtain rfl : r = 0 := by omega
      rw [mdg_zero] at hm
      subst hm
      have hs1 : (o.size : Int) ≤ 1000000000 := by omega
      have hs2 : ¬ (9223372036854775807 : Int) < 1 + (o.size : Int) := by omega
      go_wp2
      go_ret
      exact ⟨rfl, hbel⟩
    have hz' : (0 : Int) < (r : Int) := by omega
    rw [mdg_pos hz] at hm
    have q1 : (r : Int).tmod 10 = ((r % 10 : Nat) : Int) := by rw [Int.tmod_eq_emod_of_nonneg (by omega)]; omega
    have q2 : (r : Int).tdiv 10 = ((r / 10 : Nat) : Int) := by rw [Int.tdiv_eq_ediv_of_nonneg (by omega)]; omega
    have q3 : IntKind.i64.wrap (48 + ((r % 10 : Nat) : Int)) = 48 + ((r % 10 : Nat) : Int) := by rw [IntKind.wrap_i64]; omega
    have q4 : IntKind.u8.wrap (48 + ((r % 10 : Nat) : Int)) = 48 + ((r % 10 : Nat) : Int) := by simp [IntKind.wrap, IntKind.signed, IntKind.bits]; omega
    have q5 : (48 + ((r % 10 : Nat) : Int)).toNat = 48 + r % 10 := by omega
    have hcv := run_convert_bytes_arg (P := Tryd.prog) (wr.alloc (.cells #[.int .u8 (48 + (r : Int) % 10)] 5)) 88 5 Tryd.underlying88 Tryd.underlying5 wr.heap.size 0 1 1 [48 + (r : Int) % 10] rfl (fun i hi => by
      obtain rfl : i = 0 := by omega
      simp [go_sem]) 9 Tryd.underlying9
    have hst : strOfNums [48 + (r : Int) % 10] = { data := #[UInt8.ofNat (48 + r % 10)] } := by
      have : (48 + (r : Int) % 10).toNat = 48 + r % 10 := by omega
      simp [strOfNums, this]
    rw [hst] at hcv
    have hs2 : ¬ (9223372036854775807 : Int) < 1 + (o.size : Int) := by omega
    have hbA : ∀ x, Below w.heap.size w (wr.alloc x) := fun x => hbel.alloc hbel.size x
    go_wp2
    go_roundw
    case rel =>
      refine ⟨r / 10, { data := #[UInt8.ofNat (48 + r % 10)] } ++ o, by simp, ?_, hm, ?_, hbA _⟩
      · first | rfl | trivial | simp
      · rw [ByteArray.size_append, show ({ data := #[UInt8.ofNat (48 + r % 10)] } : ByteArray).size = 1 from rfl]
        omega
    case measure => simp [intOf]; omega

end Go.Proofs.YticckgmkhgnmfaaDoor

/-
  The exact laws' marks in texts of the law's own, and the look whether they are still held.
-/
set_option linter.unusedVariables false
set_option linter.unusedSimpArgs false
namespace Go.Proofs.YticckgmkhgnmfaaDoor
open Go Go.RowKit
attribute [local go_sem ↓] Go.wp_at_zero Go.wp_at_succ

/-- The row that is written, where there is one. -/
def rw9 (n b : Nat) : Option Nat := if n = 0 then none else some b
theorem rw9_pos {n b x : Nat} (h : rw9 n b = some x) : 0 < n ∧ x = b := by
  unfold rw9 at h
  split at h
  · cases h
  · exact ⟨by omega, (Option.some.inj h).symm⟩
def mkS (k : Nat) (j : Nat) : Value := .string (mtx (k + j))
theorem gr_rb9 {w w' : World} {b : Option Nat} (hb : RB w w') : w.grownBy w' b := ⟨hb.os, hb.tape, hb.output, hb.size, fun k hk _ => hb.block k hk⟩
set_option maxRecDepth 100000 in
set_option maxHeartbeats 1000000 in
theorem markStringS_any (b n cap : Nat) (f : Nat → Value) (k : Nat) (hk0 : 0 < k) (hk1 : k ≤ 8000000) (hn : n ≤ 3000000) (w : World) (h : 0 < n → VHas w b 9 n f) (ao : Option Addr) (hao : 0 < n → ao = some ⟨b, 0, none⟩) :
    Calls Tryd.prog 19 #[.slice ao n cap, .int .i64 k] w fun e w' => e = .returned (.int .i64 ((k + n : Nat) : Int)) ∧ (0 < n → VHas w' b 9 n (mkS k)) ∧ w.grownBy w' (rw9 n b) := by
  by_cases hn0 : n = 0
  · subst hn0
    go_enter Tryd.func19, Tryd.ntmps19
    go_wp2
    go_loopw [1, 5] (fun q i wr => i = .int .i64 0 ∧ q = .int .i64 (k : Int) ∧ wr = w) (fun _ i _ => 0)
    case atStart => exact ⟨rfl, rfl, rfl⟩
    case round =>
      obtain ⟨rfl, rfl, rfl⟩ := hrel
      go_wp2
      go_ret
      exact ⟨rfl, fun h => absurd h (Nat.lt_irrefl _), World.grownBy.refl _ _⟩
  have hp : 0 < n := by omega
  have h0 := h hp
  obtain rfl := hao hp
  have er : rw9 n b = some b := by simp [rw9, hn0]
  rw [er]
  clear h hao er hn0
  go_enter Tryd.func19, Tryd.ntmps19
  go_wp2
  go_loopw [1, 5] (fun q i wr => ∃ m : Nat, m ≤ n ∧ i = .int .i64 m ∧ q = .int .i64 ((k + m : Nat) : Int) ∧ VHas wr b 9 n (fun j => if j < m then mkS k j else f j) ∧ w.grownBy wr (some b)) (fun _ i _ => n - (intOf i).toNat)
  case atStart => exact ⟨0, Nat.zero_le _, rfl, by simp, h0.congr (fun j hj => by simp), World.grownBy.refl _ _⟩
  case round =>
    obtain ⟨m, hm, rfl, rfl, hh, hg⟩ := hrel
    by_cases hlt : m < n
    rotate_left
    · obtain rfl : m = n := by omega
      go_wp2
      go_ret
      exact ⟨rfl, fun _ => hh.congr (fun j hj => by rw [if_pos hj]), hg⟩
    have hMT := fun W => markText_any (k + m) (by omega) (by omega) W
    have hpc : ((k + m : Nat) : Int) = (k : Int) + (m : Int) := by omega
    have hw1 : IntKind.i64.wrap ((k : Int) + (m : Int) + 1) = (k : Int) + (m : Int) + 1 := by rw [IntKind.wrap_i64]; omega
    rw [hpc] at hMT ⊢
    have hlt' : (m : Int) < (n : Int) := by omega
    go_wp2_with fail
    refine (hMT _).mono ?_
    rintro e w1 ⟨rfl, hb1⟩
    have HR := hh.next hb1
    have e0 := HR.cell (j := m) (by omega)
    have y0 := HR.frozen m
    have R2 := HR.set m (.string (mtx (k + m)))
    have S2 := (hg.trans (gr_rb9 hb1)).trans (gr_setCell w1 b m (.string (mtx (k + m))))
    clear HR hh hb1
    go_wp2
    go_roundw
    case rel =>
      refine ⟨m + 1, by omega, by go_num, by go_num, R2.congr (fun j hj => ?_), S2⟩
      by_cases e1 : j = m
      · subst e1
        rw [if_pos rfl, if_pos (by omega)]
        rfl
      · rw [if_neg e1]
        by_cases e2 : j < m
        · rw [if_pos e2, if_pos (by omega)]
        · rw [if_neg e2, if_neg (by omega)]
    case measure => simp [intOf]; omega
set_option maxRecDepth 100000 in
set_option maxHeartbeats 1000000 in
theorem heldStringS_any (b n cap : Nat) (k : Nat) (hk0 : 0 < k) (hk1 : k ≤ 8000000) (hn : n ≤ 3000000) (w : World) (h : 0 < n → VHas w b 9 n (mkS k)) (ao : Option Addr) (hao : 0 < n → ao = some ⟨b, 0, none⟩) :
    Calls Tryd.prog 20 #[.slice ao n cap, .int .i64 k] w fun e w' => e = .returned (.int .i64 ((k + n : Nat) : Int)) ∧ RB w w' := by
  go_enter Tryd.func20, Tryd.ntmps20
  go_wp2
  go_loopw [1, 5] (fun q i wr => ∃ m : Nat, m ≤ n ∧ i = .int .i64 m ∧ q = .int .i64 ((k + m : Nat) : Int) ∧ RB w wr) (fun _ i _ => n - (intOf i).toNat)
  case atStart => exact ⟨0, Nat.zero_le _, rfl, by simp, RB.refl _⟩
  case round =>
    obtain ⟨m, hm, rfl, rfl, hbel⟩ := hrel
    by_cases hlt : m < n
    rotate_left
    · obtain rfl : m = n := by omega
      go_wp2
      go_ret
      exact ⟨rfl, hbel⟩
    obtain rfl := hao (by omega)
    have d1 := ((h (by omega)).next hbel).cell (j := m) (by omega)
    have hMT := fun W => markText_any (k + m) (by omega) (by omega) W
    have hpc : ((k + m : Nat) : Int) = (k : Int) + (m : Int) := by omega
    have hw1 : IntKind.i64.wrap ((k : Int) + (m : Int) + 1) = (k : Int) + (m : Int) + 1 := by rw [IntKind.wrap_i64]; omega
    rw [hpc] at hMT ⊢
    unfold mkS at d1
    generalize mtx (k + m) = M at hMT d1
    have hlt' : (m : Int) < (n : Int) := by omega
    go_wp2_with fail
    have hS : (fun w' : World => w'.cell? ⟨b, m, none⟩ = some (.string M)) wr.drew := d1
    refine wp_region_held_drew (S := fun w' => w'.cell? ⟨b, m, none⟩ = some (.string M)) (by kernel_rfl) hS (fun hS => ?_)
    refine takeH 0 (some 12) (.slice (some ⟨b, 0, none⟩) n cap) rfl rfl (by kernel_rfl) (by kernel_rfl) (by kernel_rfl) (fun _ _ _ h => h) (by rfl) hS (fun w9 hS9 => by have hS8 : w9.cell? ⟨b, m, none⟩ = some (.string M) := hS9; go_simp) ?_
    simp only [Act.put, List.setIfInBounds_toArray, List.set_cons_zero, List.set_cons_succ]
    refine takeH 1 (some 13) (.int .i64 (m : Int)) rfl rfl (by kernel_rfl) (by kernel_rfl) (by kernel_rfl) (fun _ _ _ h => h) (by rfl) hS (fun w9 hS9 => by have hS8 : w9.cell? ⟨b, m, none⟩ = some (.string M) := hS9; go_simp) ?_
    simp only [Act.put, List.setIfInBounds_toArray, List.set_cons_zero, List.set_cons_succ]
    refine takeH 2 (some 14) (.pointer (some ⟨b, m, none⟩)) rfl rfl (by kernel_rfl) (by kernel_rfl) (by kernel_rfl) (fun _ _ _ h => h) (by rfl) hS (fun w9 hS9 => by have hS8 : w9.cell? ⟨b, m, none⟩ = some (.string M) := hS9; go_simp) ?_
    simp only [Act.put, List.setIfInBounds_toArray, List.set_cons_zero, List.set_cons_succ]
    refine takeH 3 (some 15) (.string M) rfl rfl (by kernel_rfl) (by kernel_rfl) (by kernel_rfl) (fun _ _ _ h => h) (by rfl) hS (fun w9 hS9 => by have hS8 : w9.cell? ⟨b, m, none⟩ = some (.string M) := hS9; go_simp) ?_
    simp only [Act.put, List.setIfInBounds_toArray, List.set_cons_zero, List.set_cons_succ]
    refine takeH 4 (some 16) (.int .i64 ((k : Int) + (m : Int))) rfl rfl (by kernel_rfl) (by kernel_rfl) (by kernel_rfl) (fun _ _ _ h => h) (by rfl) hS (fun w9 hS9 => by have hS8 : w9.cell? ⟨b, m, none⟩ = some (.string M) := hS9; go_simp) ?_
    simp only [Act.put, List.setIfInBounds_toArray, List.set_cons_zero, List.set_cons_succ]
    refine step1H 5 _ rfl (by kernel_rfl) (by rfl) ?_
    go_simp
    refine (hMT _).mono ?_
    rintro e w1 ⟨rfl, hb1⟩
    replace hS : w1.cell? ⟨b, m, none⟩ = some (.string M) := keep_cell hb1 (Nat.le_refl _) hS
    refine ⟨hS, ?_⟩
    refine takeH 6 (some 18) (.bool false) rfl rfl (by kernel_rfl) (by kernel_rfl) (by kernel_rfl) (fun _ _ _ h => h) (by rfl) hS (fun w9 hS9 => by have hS8 : w9.cell? ⟨b, m, none⟩ = some (.string M) := hS9; go_simp) ?_
    simp only [Act.put, List.setIfInBounds_toArray, List.set_cons_zero, List.set_cons_succ]
    refine wpAnyH_done (by kernel_rfl) ?_ _
    go_wp2
    go_roundw
    case rel => exact ⟨m + 1, by omega, by go_num, by go_num, below_next hbel.drew (Nat.le_refl _) hb1⟩
    case measure => simp [intOf]; omega

end Go.Proofs.YticckgmkhgnmfaaDoor

/-
  Copies of arcs, the laws' own.
-/
set_option linter.unusedVariables false
set_option linter.unusedSimpArgs false
namespace Go.Proofs.YticckgmkhgnmfaaDoor
open Go.RowKit

theorem toArc_any (f t g : Int) (w : World) :
    Calls Tryd.prog 59 #[.agg #[.int .i64 f, .int .i64 t, .int .i64 g]] w fun e w' => e = .returned (.agg #[.int .i64 f, .int .i64 t, .int .i64 g]) ∧ Below w.heap.size w w' := by
  go_enter Tryd.func59, Tryd.ntmps59
  go_wp2
  simp [bodyPost, results, Tryd.results59, go_sem]
  exact (((Below.refl _ _).alloc (Nat.le_refl _) _).alloc (by simp) _).alloc (by simp; omega) _
set_option maxHeartbeats 400000 in
theorem toArcS_any (ao : Option Addr) (n cap : Nat) (F T G : Nat → Int) (hn : n ≤ 1048576) (w : World) (hr : Row w ao n F T G) :
    Calls Tryd.prog 37 #[.slice ao n cap] w fun e w' => e = .returned (.slice (some ⟨w.heap.size, 0, none⟩) n n) ∧ Own w' w.heap.size n (ar F T G) ∧ Below w.heap.size w w' := by
  have hmk := make_arcs n hn
  go_enter Tryd.func37, Tryd.ntmps37
  go_wp2
  clear hmk
  go_loopw [4] (fun i wr => ∃ k : Nat, k ≤ n ∧ i = .int .i64 k ∧ Own wr w.heap.size n (upto (ar F T G) (k * 3)) ∧ Below w.heap.size w wr) (fun i _ => n - (intOf i).toNat)
  case atStart => exact ⟨0, Nat.zero_le _, rfl, made_own w n _, (Below.refl _ _).alloc (Nat.le_refl _) _⟩
  case round =>
    obtain ⟨k, hk, rfl, hown, hbel⟩ := hrel
    by_cases hlt : k < n
    · obtain ⟨b, o, hao, c0, c1, c2⟩ := (hr.below hbel (Nat.le_refl _)) k hlt
      subst hao
      go_wp2_with (go_at_call 59; refine (toArc_any (F k) (T k) (G k) _).mono ?_; rintro e w1 ⟨rfl, hb1⟩; have d0 := World.rowIs.cell (hown.below hb1) (i := k * 3) (by omega); have d1 := World.rowIs.cell (hown.below hb1) (i := k * 3 + 1) (by omega); have d2 := World.rowIs.cell (hown.below hb1) (i := k * 3 + 2) (by omega); have z0 := World.rowIs.frozen (hown.below hb1) (k * 3); have z1 := World.rowIs.frozen (hown.below hb1) (k * 3 + 1); have z2 := World.rowIs.frozen (hown.below hb1) (k * 3 + 2))
      have R := (hown.below hb1).three hlt
      have S := hbel.trans (hb1.mono hbel.size)
      clear d0 d1 d2 z0 z1 z2 hown hb1 hbel
      go_roundw
      case rel => exact ⟨k + 1, by omega, by go_num, R, ((S.setCell (Nat.le_refl _) _).setCell (Nat.le_refl _) _).setCell (Nat.le_refl _) _⟩
      case measure => simp [intOf]; omega
    · have hkn : k = n := by omega
      subst hkn
      go_wp2
      go_ret
      exact ⟨rfl, World.rowIs.congr hown (fun j hj => by simp [upto, hj]), hbel⟩
theorem szArcS_in (ao : Option Addr) (n cap : Nat) (l : Int) (h0 : (n : Int) ≤ l) (hl : l ≤ 1048576) (w : World) :
    Calls Tryd.prog 31 #[.slice ao n cap, .int .i64 l] w fun e w' => e = .returned (.int .i64 (l - n)) ∧ w' = w := by
  go_enter Tryd.func31, Tryd.ntmps31
  go_wp2
  go_ret
  exact ⟨rfl, rfl⟩
theorem szArcS_out (ao : Option Addr) (n cap : Nat) (l : Int) (h0 : l < (n : Int)) (h1 : 0 ≤ l) (hl : l ≤ 1048576) (hn : n ≤ 9223372036854775807) (w : World) :
    Calls Tryd.prog 31 #[.slice ao n cap, .int .i64 l] w fun e w' => e = .returned (.int .i64 (-1)) ∧ w' = w := by
  go_enter Tryd.func31, Tryd.ntmps31
  go_wp2
  go_ret
  exact ⟨rfl, rfl⟩

end Go.Proofs.YticckgmkhgnmfaaDoor

/-
  What the laws' own helpers of chapter 1 do: the size that is counted, the copies that are made. For every list of at most 2^20 arcs.
-/
set_option linter.unusedVariables false
set_option linter.unusedSimpArgs false
namespace Go.Proofs.YticckgmkhgnmfaaDoor
open Go.RowKit

/-- A copy of a map: its arcs in new memory of the call's own. -/
theorem toGraph_any (p : Int) (ao : Option Addr) (n cap : Nat) (F T G : Nat → Int) (hn : n ≤ 1048576) (w : World) (hr : Row w ao n F T G) :
    Calls Tryd.prog 13 #[.agg #[.int .i64 p, .slice ao n cap]] w fun e w' => ∃ b, e = .returned (.agg #[.int .i64 p, .slice (some ⟨b, 0, none⟩) n n]) ∧ w.heap.size ≤ b ∧ Own w' b n (ar F T G) ∧ Below w.heap.size w w' := by
  go_enter Tryd.func13, Tryd.ntmps13
  go_wp2_with (go_at_call 37; refine (toArcS_any ao n cap F T G hn _ (((hr.alloc _).alloc _).alloc _)).mono ?_; rintro e w1 ⟨rfl, hown, hb1⟩; obtain ⟨hc, hf⟩ := bcell hb1; have hz : w.heap.size + 2 < w1.heap.size := by have := hb1.size; simp at this; omega)
  simp [bodyPost, results, Tryd.results13, go_sem, hc, hz]
  have hown' : Own w1 (w.heap.size + 1 + 1 + 1) n (ar F T G) := by simpa using hown
  refine ⟨by omega, World.rowIs.setOther (World.rowIs.setOther (World.rowIs.setOther hown' (by simp) _) (by simp; omega) _) (by simp; omega) _, ?_⟩
  exact (((((((Below.refl _ _).alloc (Nat.le_refl _) _).alloc (by simp) _).alloc (by simp; omega) _).trans (hb1.mono (by simp; omega))).setCell (by simp; omega) _).setCell (by simp) _).setCell (by simp) _
theorem szGraph_in (p : Int) (ao : Option Addr) (n cap : Nat) (l : Int) (h0 : (n : Int) ≤ l) (hl : l ≤ 1048576) (w : World) :
    Calls Tryd.prog 10 #[.agg #[.int .i64 p, .slice ao n cap], .int .i64 l] w fun e w' => e = .returned (.int .i64 (l - n)) ∧ Below w.heap.size w w' := by
  go_enter Tryd.func10, Tryd.ntmps10
  go_wp2_with (go_at_call 31; refine (szArcS_in ao n cap l h0 hl _).mono ?_; rintro e w1 ⟨rfl, rfl⟩)
  go_ret
  exact ⟨rfl, (Below.refl _ _).alloc (Nat.le_refl _) _⟩
theorem szGraph_out (p : Int) (ao : Option Addr) (n cap : Nat) (l : Int) (h0 : l < (n : Int)) (h1 : 0 ≤ l) (hl : l ≤ 1048576) (hn : n ≤ 9223372036854775807) (w : World) :
    Calls Tryd.prog 10 #[.agg #[.int .i64 p, .slice ao n cap], .int .i64 l] w fun e w' => e = .returned (.int .i64 (-1)) ∧ Below w.heap.size w w' := by
  go_enter Tryd.func10, Tryd.ntmps10
  go_wp2_with (go_at_call 31; refine (szArcS_out ao n cap l h0 h1 hl hn _).mono ?_; rintro e w1 ⟨rfl, rfl⟩)
  go_ret
  exact ⟨rfl, (Below.refl _ _).alloc (Nat.le_refl _) _⟩

end Go.Proofs.YticckgmkhgnmfaaDoor

/-
  The laws' own comparison of arcs.
-/
set_option linter.unusedVariables false
set_option linter.unusedSimpArgs false
namespace Go.Proofs.YticckgmkhgnmfaaDoor
open Go.RowKit
attribute [local go_sem ↓] Go.wp_at_zero Go.wp_at_succ

theorem eqArc_same (f t g : Int) (w : World) :
    Calls Tryd.prog 72 #[.agg #[.int .i64 f, .int .i64 t, .int .i64 g], .agg #[.int .i64 f, .int .i64 t, .int .i64 g]] w fun e w' => e = .returned (.bool true) ∧ Below w.heap.size w w' := by
  go_enter Tryd.func72, Tryd.ntmps72
  go_wp2
  go_ret
  exact ⟨rfl, ((Below.refl _ _).alloc (Nat.le_refl _) _).alloc (by simp) _⟩
set_option maxHeartbeats 800000 in
theorem eqArcS_same (ao ao' : Option Addr) (n cap cap' : Nat) (F T G : Nat → Int) (hn : n ≤ 1048576) (w : World) (hr : Row w ao n F T G) (hr' : Row w ao' n F T G) :
    Calls Tryd.prog 43 #[.slice ao n cap, .slice ao' n cap'] w fun e w' => e = .returned (.bool true) ∧ Below w.heap.size w w' := by
  go_enter Tryd.func43, Tryd.ntmps43
  go_wp2
  go_loopw [5] (fun i wr => ∃ k : Nat, k ≤ n ∧ i = .int .i64 k ∧ Below w.heap.size w wr) (fun i _ => n - (intOf i).toNat)
  case atStart => exact ⟨0, Nat.zero_le _, rfl, Below.refl _ _⟩
  case round =>
    obtain ⟨k, hk, rfl, hbel⟩ := hrel
    by_cases hlt : k < n
    rotate_left
    · have hkn : k = n := by omega
      subst hkn
      go_wp2
      go_ret
      exact ⟨rfl, hbel⟩
    obtain ⟨b, o, hao, c0, c1, c2⟩ := (hr.below hbel (Nat.le_refl _)) k hlt
    obtain ⟨b', o', hao', d0, d1, d2⟩ := (hr'.below hbel (Nat.le_refl _)) k hlt
    subst hao
    subst hao'
    have hk1 : (0 : Int) ≤ (k : Int) := by omega
    have hk2 : (k : Int) < (n : Int) := by omega
    go_wp2
    go_region_held3 (fun w' => w'.cell? ⟨b, o + k * 3, none⟩ = some (.int .i64 (F k)) ∧ w'.cell? ⟨b, o + k * 3 + 1, none⟩ = some (.int .i64 (T k)) ∧ w'.cell? ⟨b, o + k * 3 + 2, none⟩ = some (.int .i64 (G k)) ∧ w'.cell? ⟨b', o' + k * 3, none⟩ = some (.int .i64 (F k)) ∧ w'.cell? ⟨b', o' + k * 3 + 1, none⟩ = some (.int .i64 (T k)) ∧ w'.cell? ⟨b', o' + k * 3 + 2, none⟩ = some (.int .i64 (G k)))
        (first | (go_split_ands; refine ⟨?_, ?_, ?_, ?_, ?_, ?_⟩ <;> exact keep_cell ‹_› (Nat.le_refl _) (by assumption)) | go_keep)
        (first | (go_at_call 72; refine (eqArc_same _ _ _ _).mono ?_; rintro e w2 ⟨rfl, hb2⟩))
    go_wp2
    go_roundw
    case rel => exact ⟨k + 1, by omega, by go_num, below_next hbel.drew (Nat.le_refl _) hb2⟩
    case measure => simp [intOf]; omega

end Go.Proofs.YticckgmkhgnmfaaDoor

/-
  The laws' own comparison: two maps with the same places and arcs are told alike.
-/
set_option linter.unusedVariables false
set_option linter.unusedSimpArgs false
namespace Go.Proofs.YticckgmkhgnmfaaDoor
open Go.RowKit
attribute [local go_sem ↓] Go.wp_at_zero Go.wp_at_succ

set_option maxHeartbeats 800000 in
theorem eqGraph_same (p : Int) (ao ao' : Option Addr) (n cap cap' : Nat) (F T G : Nat → Int) (hn : n ≤ 1048576) (w : World) (hr : Row w ao n F T G) (hr' : Row w ao' n F T G) :
    Calls Tryd.prog 17 #[.agg #[.int .i64 p, .slice ao n cap], .agg #[.int .i64 p, .slice ao' n cap']] w fun e w' => e = .returned (.bool true) ∧ Below w.heap.size w w' := by
  go_enter Tryd.func17, Tryd.ntmps17
  go_wp2_with (go_at_call 43; refine (eqArcS_same ao ao' n cap cap' F T G hn _ ((hr.alloc _).alloc _) ((hr'.alloc _).alloc _)).mono ?_; rintro e w1 ⟨rfl, hb1⟩)
  go_ret
  exact ⟨rfl, below_next (((Below.refl _ _).alloc (Nat.le_refl _) _).alloc (by simp) _) (Nat.le_refl _) hb1⟩

end Go.Proofs.YticckgmkhgnmfaaDoor

/-
  What the reading of an argument says of its memory: a list of arcs that came in lies behind its address, three numbers an arc.
-/
set_option linter.unusedVariables false
set_option linter.unusedSimpArgs false
namespace Go.Proofs.YticckgmkhgnmfaaDoor
open Go.ChangeShapes Go.WideShapes Go.ChangeAt Go.RowKit Go.Deep Go.Joins

theorem Tryd.cellsLArc : Tryd.prog.cellsOf 91 = 3 := by kernel_rfl
set_option maxRecDepth 100000 in
theorem open_arcs {H : Type} {enc : TypeId × Value → H} {w : World} {base : Nat} {spare : Nat → Bool} {held : Bool} {fuel : Nat} {cs : List Value} {x : DataW H × List MemPlace}
    (h : DataW.trod enc Tryd.prog w base spare held fuel 31 cs = some x) :
    ∃ (ao : Option Addr) (n cap : Nat) (F T G : Nat → Int), cs = [.slice ao n cap] ∧ n ≤ maxLen ∧ Row w ao n F T G := by
  rcases open_slice Tryd.underlying31 h with ⟨rfl, _⟩ | ⟨a, len, cap, m, n, D, Pl, rfl, hb, hl, hm, hmm, _, hx⟩
  · exact ⟨none, 0, 0, fun _ => 0, fun _ => 0, fun _ => 0, rfl, Nat.zero_le _, fun k hk => by omega⟩
  have hlm : len ≤ m := by rw [hmm]; split <;> omega
  have each : ∀ i, i < len → ∃ q : Int × Int × Int, w.cell? (a.add (i * 3)) = some (.int .i64 q.1) ∧ w.cell? (a.add (i * 3 + 1)) = some (.int .i64 q.2.1) ∧ w.cell? (a.add (i * 3 + 2)) = some (.int .i64 q.2.2) := by
    intro i hi
    obtain ⟨cs', h1, h2⟩ := hx i (by omega)
    rw [Tryd.cellsLArc] at h1
    obtain ⟨_, hlen, hcell⟩ := World.cells?_some h1
    obtain ⟨y0, y1, y2, n', _, _, g0, g1, g2⟩ := trod_struct3 Tryd.underlying91 h2
    match cs', hlen with
    | [v0, v1, v2], _ =>
      simp [Tryd.cellsInt] at g0 g1 g2
      obtain ⟨q0, r0, _⟩ := DataW.trod_int Tryd.underlying2 g0
      obtain ⟨q1, r1, _⟩ := DataW.trod_int Tryd.underlying2 g1
      obtain ⟨q2, r2, _⟩ := DataW.trod_int Tryd.underlying2 g2
      have e0 := hcell 0 (by omega)
      have e1 := hcell 1 (by omega)
      have e2 := hcell 2 (by omega)
      rw [add_add] at e0 e1 e2
      simp at r0 r1 r2
      subst r0 r1 r2
      exact ⟨(q0, q1, q2), by simpa using e0, by simpa using e1, by simpa using e2⟩
  obtain ⟨f, hf⟩ := choose_lt each
  refine ⟨some a, len, cap, fun i => (f i).1, fun i => (f i).2.1, fun i => (f i).2.2, rfl, by omega, fun k hk => ?_⟩
  obtain ⟨b, o, spot⟩ := a
  have hspot : spot = none := by
    have := World.cell?_spot (hf 0 (by omega)).1
    simpa [Addr.add] using this
  subst hspot
  have := hf k hk
  rw [Addr.add_mid, Addr.add_mid, Addr.add_mid] at this
  exact ⟨b, o, rfl, this.1, by simpa [Nat.add_assoc] using this.2.1, by simpa [Nat.add_assoc] using this.2.2⟩

end Go.Proofs.YticckgmkhgnmfaaDoor

/-
  What the reading of an argument says of its memory: a list of arcs that came in lies behind its address, three numbers an arc.
-/
set_option linter.unusedVariables false
set_option linter.unusedSimpArgs false
namespace Go.Proofs.YticckgmkhgnmfaaDoor
open Go.ChangeShapes Go.WideShapes Go.ChangeAt Go.RowKit Go.Deep Go.Joins

theorem Tryd.cellsLGraph : Tryd.prog.cellsOf 33 = 2 := by kernel_rfl

end Go.Proofs.YticckgmkhgnmfaaDoor

/-
  Arcs of the law's own: each number is marked.
-/
set_option linter.unusedVariables false
set_option linter.unusedSimpArgs false
namespace Go.Proofs.YticckgmkhgnmfaaDoor
open Go.RowKit Go.Maps

set_option maxHeartbeats 1000000 in
theorem markArcS_any (b n cap : Nat) (f : Nat → Int) (k : Int) (hk0 : 0 ≤ k) (hk1 : k ≤ 4000000) (hn : n ≤ 1048576) (w : World) (h : 0 < n → Has w b n f) (ao : Option Addr) (hao : 0 < n → ao = some ⟨b, 0, none⟩) :
    Calls Tryd.prog 44 #[.slice ao n cap, .int .i64 k] w fun e w' => e = .returned (.int .i64 (k + 3 * n)) ∧ (0 < n → Has w' b n (mk k)) ∧ w.grownBy w' (some b) := by
  go_enter Tryd.func44, Tryd.ntmps44
  go_wp2
  go_loopw [1, 5] (fun q i wr => ∃ m : Nat, m ≤ n ∧ i = .int .i64 m ∧ q = .int .i64 (k + 3 * m) ∧ (0 < n → Has wr b n (fun j => if j < 3 * m then mk k j else f j)) ∧ w.grownBy wr (some b)) (fun _ i _ => n - (intOf i).toNat)
  case atStart => exact ⟨0, Nat.zero_le _, rfl, by simp, fun hp => (h hp).congr (fun j _ => by simp), World.grownBy.refl _ _⟩
  case round =>
    obtain ⟨m, hm, rfl, rfl, hh, hg⟩ := hrel
    by_cases hlt : m < n
    rotate_left
    · have e : m = n := by omega
      subst e
      go_wp2
      go_ret
      exact ⟨rfl, fun hp => (hh hp).congr (fun j hj => by rw [if_pos (by omega)]), hg⟩
    obtain rfl := hao (by omega)
    have HH := hh (by omega)
    have d0 := HH.cell (j := m * 3) (by omega)
    have d1 := HH.cell (j := m * 3 + 1) (by omega)
    have d2 := HH.cell (j := m * 3 + 2) (by omega)
    have z0 := HH.frozen (m * 3)
    have z1 := HH.frozen (m * 3 + 1)
    have z2 := HH.frozen (m * 3 + 2)
    have R := ((HH.set (m * 3) (k + 3 * m)).set (m * 3 + 1) (k + 3 * m + 1)).set (m * 3 + 2) (k + 3 * m + 1 + 1)
    have S := ((hg.trans (grown_setCell _ b (m * 3) (.int .i64 (k + 3 * m)))).trans (grown_setCell _ b (m * 3 + 1) (.int .i64 (k + 3 * m + 1)))).trans (grown_setCell _ b (m * 3 + 2) (.int .i64 (k + 3 * m + 1 + 1)))
    clear HH hh
    go_wp2
    go_roundw
    case rel =>
      refine ⟨m + 1, by omega, by go_num, by go_num, fun _ => R.congr (fun j hj => ?_), S⟩
      by_cases e2 : j = m * 3 + 2
      · subst e2; simp [mk]; omega
      by_cases e1 : j = m * 3 + 1
      · subst e1; simp [mk]; omega
      by_cases e0 : j = m * 3
      · subst e0; simp [mk]; omega
      simp only [if_neg e2, if_neg e1, if_neg e0]
      by_cases hl : j < 3 * m
      · rw [if_pos hl, if_pos (by omega)]
      · rw [if_neg hl, if_neg (by omega)]
    case measure => simp [intOf]; omega

attribute [local go_sem ↓] Go.wp_at_zero Go.wp_at_succ

end Go.Proofs.YticckgmkhgnmfaaDoor

/-
  What the exact laws' own helpers do with arcs and maps of the law's own: each number is marked.
-/
set_option linter.unusedVariables false
set_option linter.unusedSimpArgs false
namespace Go.Proofs.YticckgmkhgnmfaaDoor
open Go.RowKit Go.Maps

theorem markGraph_any (p : Int) (b n cap : Nat) (f : Nat → Int) (k : Int) (hk0 : 0 ≤ k) (hk1 : k ≤ 4000000) (hn : n ≤ 1048576) (w : World) (h : 0 < n → Has w b n f) (ao : Option Addr) (hao : 0 < n → ao = some ⟨b, 0, none⟩) :
    Calls Tryd.prog 18 #[.agg #[.int .i64 p, .slice ao n cap], .int .i64 k] w fun e w' => e = .returned (.int .i64 (k + 3 * n)) ∧ (0 < n → Has w' b n (mk k)) ∧ w.grownBy w' (some b) := by
  go_enter Tryd.func18, Tryd.ntmps18
  go_wp2_with (go_at_call 44; refine (markArcS_any b n cap f k hk0 hk1 hn _ (fun hp => (h hp).below ((Below.refl w.heap.size w).alloc (Nat.le_refl _) _) (h hp).lt) ao hao).mono ?_; rintro e w1 ⟨rfl, hh, hg⟩)
  go_ret
  exact ⟨rfl, hh, grown_unbox hg⟩

end Go.Proofs.YticckgmkhgnmfaaDoor
