/-
  The sums of a climb, the document's.
-/
import Derived.Test.YtokaechbmnbbiabGreatPack13
import Derived.Test.YtokaechbmnbbiabGreatPack14
import Derived.Test.YtokaechbmnbbiabGreatPack2
set_option linter.unusedVariables false
set_option linter.unusedSimpArgs false
namespace Go.Proofs.YtokaechbmnbbiabGreat
open Go.RowKit Go.Deep Go.Joins
attribute [local go_sem ↓] Go.wp_at_zero Go.wp_at_succ

set_option maxRecDepth 100000 in
set_option maxHeartbeats 4000000 in
theorem l6Climb_any (po : Option Addr) (k pcap : Nat) (eo : Option Addr) (m ecap : Nat) (L H : Nat → Int) (uo : Option Addr) (ucap : Nat) (U : Nat → Int) (vo : Option Addr) (vcap : Nat) (V : Nat → Int) (r : Nat) (bk : Bool) (hT : TOld k m L H m U m V) (hr : r < k) (hm : m ≤ 1048576) (w : World) (he : ERow w eo m L H) (hU : IRow w uo m U) (hV : IRow w vo m V) :
    Calls Tryz.prog 76 #[.agg #[.slice po k pcap, .slice eo m ecap], .agg #[.slice uo m ucap, .slice vo m vcap], .int .i64 r, .bool bk] w fun e w' => ∃ g cap', e = .returned (.slice (some ⟨g, 0, none⟩) k cap') ∧ w.heap.size ≤ g ∧ IHas w' g k (cl L H (wts U V bk) r m) ∧ Below w.heap.size w w' := by
  have hk24 := (told_k hT).2
  have HED : Hid (∀ i, i < m → 0 ≤ L i ∧ L i < H i ∧ H i < (k : Int)) := told_e hT
  have HWI : Hid (InF m (wts U V bk)) := wts_in hT.2.2.2.1 hT.2.2.2.2 bk
  have HIU : Hid (InF m U ∧ InF m V) := hT.2.2.2
  have HWT0 : Hid (∀ i, wts U V bk i = if bk then V i else U i) := fun i => by cases bk <;> rfl
  generalize wts U V bk = Wt at HWI HWT0 ⊢
  clear hT
  go_enter Tryz.func76, Tryz.ntmps76
  go_wp2
  go_loopw [9, 10] (fun d i wr => ∃ j g c : Nat, j ≤ k ∧ i = .int .i64 j ∧ d = .slice (some ⟨g, 0, none⟩) j c ∧ IOwn wr (w.heap.size + 2) g c j (fun _ => 1000000000000) ∧ Below (w.heap.size + 2) ((w.alloc (.cells #[.slice po k pcap, .slice eo m ecap] 30)).alloc (.cells #[.slice uo m ucap, .slice vo m vcap] 34)) wr) (fun _ i _ => k - (intOf i).toNat)
  case atStart => exact ⟨0, w.heap.size + 1 + 1, 0, Nat.zero_le _, rfl, rfl, by simpa using IOwn.empty ((w.alloc (.cells #[.slice po k pcap, .slice eo m ecap] 30)).alloc (.cells #[.slice uo m ucap, .slice vo m vcap] 34)) (base := w.heap.size + 2) (by simp) _, (Below.refl _ _).alloc (by simp) _⟩
  case round =>
    obtain ⟨j, g, c, hj, rfl, rfl, hown, hbel⟩ := hrel
    obtain ⟨⟨q0, q1⟩, ⟨q2, q3⟩, hsz⟩ := box2m hbel
    have hgl := hown.lt
    have hgb := hown.base
    by_cases hlt : j < k
    · have hlt' : (j : Int) < (k : Int) := by omega
      go_wp2_with (at_builtin; refine wpList_append_int rfl _ _ rfl (w.heap.size + 2) g c j (fun _ => 1000000000000) rfl (by exact hown.below ((Below.refl _ _).alloc (Nat.le_refl _) _) (by omega)) ⟨wr.heap.size, 0, none⟩ 1 1000000000000 rfl (by simp [go_sem]) (by omega) (by simp; omega) ?_; intro g' c' w2 hown2 hgrow2 hat2)
      go_wp2
      go_roundw
      case rel => exact ⟨j + 1, g', c', by omega, by go_num, rfl, hown2 _ (fun _ _ => rfl) rfl, (hbel.alloc (by omega) _).grown hgrow2 (by simp; omega) (fun j hj => by cases hj; omega)⟩
      case measure => simp [intOf]; omega
    have hjk : j = k := by omega
    subst hjk
    have d0 := hown.has.cell hr
    have z0 := hown.has.frozen r
    have hs0 : (r : Int) < (j : Int) := by omega
    have R : IHas (wr.setCell ⟨g, r, none⟩ (.int .i64 0)) g j (cl L H Wt r 0) := (hown.has.set r 0).congr (fun i hi => by unfold cl; rfl)
    have B := hbel.setCell (p := ⟨g, r, none⟩) hgb (.int .i64 0)
    clear hown
    go_wp2
    clear d0 z0 q0 q1 q2 q3
    go_loopw [11] (fun x wr2 => ∃ i : Nat, i ≤ m ∧ x = .int .i64 i ∧ IHas wr2 g j (cl L H Wt r i) ∧ Below (w.heap.size + 2) ((w.alloc (.cells #[.slice po j pcap, .slice eo m ecap] 30)).alloc (.cells #[.slice uo m ucap, .slice vo m vcap] 34)) wr2) (fun x _ => m - (intOf x).toNat)
    case atStart => exact ⟨0, Nat.zero_le _, rfl, R, B⟩
    case round =>
      obtain ⟨i, hi, rfl, hI3, hB3⟩ := hrel
      clear R B
      obtain ⟨⟨q0, q1⟩, ⟨q2, q3⟩, hsz2⟩ := box2m hB3
      by_cases hlt3 : i < m
      rotate_left
      · have hin : i = m := by omega
        subst hin
        go_wp2
        go_ret
        exact ⟨g, c, rfl, by omega, hI3, unbox2 hB3 (by omega)⟩
      obtain ⟨ab, aoff, hao, e0, e1⟩ := (((he.alloc _).alloc _).below hB3 (by simp)) i hlt3
      subst hao
      obtain ⟨ub, uoff, huo, u0⟩ := (((hU.alloc _).alloc _).below hB3 (by simp)) i hlt3
      subst huo
      obtain ⟨vb, voff, hvo, v0⟩ := (((hV.alloc _).alloc _).below hB3 (by simp)) i hlt3
      subst hvo
      have ha := HED.out i hlt3
      obtain ⟨tF, hF⟩ : ∃ tF : Nat, L i = (tF : Int) := ⟨(L i).toNat, by omega⟩
      obtain ⟨tT, hTT⟩ : ∃ tT : Nat, H i = (tT : Int) := ⟨(H i).toNat, by omega⟩
      have l1 : tF < j := by omega
      have l2 : tT < j := by omega
      have x1 : (tF : Int) < (j : Int) := by omega
      have x2 : (tT : Int) < (j : Int) := by omega
      have w0 := hI3.cell l1
      have w1 := hI3.cell l2
      have z1 := hI3.frozen tT
      have b1 := hI3.frozen tF
      have hk1 : (0 : Int) ≤ (i : Int) := by omega
      have hk2 : (i : Int) < (m : Int) := by omega
      have PK : Hid (IHas wr g j (cl L H Wt r i) ∧ Below (w.heap.size + 2) ((w.alloc (.cells #[.slice po j pcap, .slice (some ⟨ab, aoff, none⟩) m ecap] 30)).alloc (.cells #[.slice (some ⟨ub, uoff, none⟩) m ucap, .slice (some ⟨vb, voff, none⟩) m vcap] 34)) wr) := ⟨hI3, hB3⟩
      have hgl3 := hI3.lt
      have hs1 : w.heap.size < wr.heap.size := by omega
      have hs2 : w.heap.size + 1 < wr.heap.size := by omega
      have hul := lt_of_cell u0
      have hvl := lt_of_cell v0
      have c0 : 0 ≤ cl L H Wt r i tF ∧ cl L H Wt r i tF ≤ 1000000000000 := cl_in r HWI.out i (by omega) tF
      have c1 : 0 ≤ Wt i ∧ Wt i ≤ 1000000000000 := HWI.out i hlt3
      clear hI3 hB3 he hU hV ha hbel hj hlt
      have hwt := HWT0.out i
      cases bk <;>
      · simp only [if_true, if_false, Bool.false_eq_true, reduceIte] at hwt
        rw [hwt] at c1
        have HWT : Hid (_ = _) := hwt
        clear hwt
        go_wp2
        refine wp_region_last_lit 17 (by kernel_rfl) (by rfl) (by rfl) (by rfl) (by kernel_rfl) (by kernel_rfl) (by kernel_rfl) (by rfl) ?_
        simp only [List.take_succ_cons, List.take_zero, List.cons_append, List.nil_append]
        repeat (go_big_quiet_step (first | exact Calls.quiet_of_same (l1Add_any _ _ c0.1 c0.2 c1.1 c1.2 _) | exact Calls.quiet_of_same (l1Min_any _ _ _)))
        refine wpQuiet_nil ?_
        intro w7 hw7
        obtain ⟨nq, rfl⟩ := hw7
        obtain ⟨hI3, hB3⟩ := PK.out
        have al := (Below.refl wr.heap.size wr).alloc (Nat.le_refl _) (.cells #[.int .i64 (tF : Int), .int .i64 (tT : Int)] 62)
        have hI6 := hI3.below al hI3.lt
        have hI7 := hI6.below (below_drewN (Below.refl _ _) nq) hI6.lt
        have hB7 := below_drewN (hB3.trans (al.mono (by omega))) nq
        clear PK hI3 hB3 al hI6 w0 w1 z1 b1 e0 e1 u0 v0 q0 q1 q2 q3
        generalize (wr.alloc (.cells #[.int .i64 (tF : Int), .int .i64 (tT : Int)] 62)).drewN nq = W7 at hI7 hB7 ⊢
        have s0 := hI7.cell l2
        have s1 := hI7.frozen tT
        have R : IHas (W7.setCell ⟨g, tT, none⟩ (.int .i64 (min (cl L H Wt r i tT) (min 1000000000000 (cl L H Wt r i tF + Wt i))))) g j (cl L H Wt r (i + 1)) := (hI7.set tT _).congr (fun x hx => by
          have h1 : (H i).toNat = tT := by omega
          have h2 : (L i).toNat = tF := by omega
          show _ = (if x = (H i).toNat then _ else _)
          rw [h1, h2])
        have B := hB7.setCell (p := ⟨g, tT, none⟩) hgb (.int .i64 (min (cl L H Wt r i tT) (min 1000000000000 (cl L H Wt r i tF + Wt i))))
        rw [HWT.out] at R B
        clear hI7 hB7
        go_simp
        go_wp2
        go_roundw
        case rel => exact ⟨i + 1, by omega, by go_num, R, B⟩
        case measure => simp [intOf]; omega

end Go.Proofs.YtokaechbmnbbiabGreat
