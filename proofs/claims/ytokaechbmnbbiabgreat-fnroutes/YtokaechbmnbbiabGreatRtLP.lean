/-
  The program's lastSteps: for each rank the first edge with which a climb comes there.
-/
import Derived.Test.YtokaechbmnbbiabGreatPack14
import Derived.Test.YtokaechbmnbbiabGreatUnJP
import Derived.Test.YtokaechbmnbbiabGreatPack15
set_option linter.unusedVariables false
set_option linter.unusedSimpArgs false
namespace Go.Proofs.YtokaechbmnbbiabGreat
open Go.RowKit Go.Maps Go.Deep Go.Joins
attribute [local go_sem ↓] Go.wp_at_zero Go.wp_at_succ

theorem make_smap (w : World) : (Instr.makeMap 146 none).run Tryz.prog w = .ok (.map (some w.heap.size)) (w.alloc (.map #[] 0)) := by
  simp [Instr.makeMap, run_underlying Tryz.underlying146, newObj]
  rfl
def wUp (U V : Nat → Int) (up : Bool) : Nat → Int := if up = true then U else V
set_option maxRecDepth 100000 in
set_option maxHeartbeats 8000000 in


theorem lastSteps_any (p : Int) (ao : Option Addr) (n cap : Nat) (po : Option Addr) (k pcap : Nat) (eo : Option Addr) (m ecap : Nat) (L H : Nat → Int) (uo : Option Addr) (ucap : Nat) (U : Nat → Int) (vo : Option Addr) (vcap : Nat) (V : Nat → Int) (ma me : Nat) (r : Nat) (up : Bool) (hr : r < k) (hk : k ≤ 24) (hE : ∀ i, i < m → 0 ≤ L i ∧ L i < H i ∧ H i < (k : Int)) (hU : InF m U) (hV : InF m V) (hm : m ≤ 100000) (w : World) (he : ERow w eo m L H) (hu : IRow w uo m U) (hv : IRow w vo m V) :
    Calls Tryz.prog 114 #[.agg #[.int .i64 p, .slice ao n cap, .slice po k pcap, .slice eo m ecap, .slice uo m ucap, .slice vo m vcap, .map (some ma), .map (some me)], .int .i64 r, .bool up] w fun e w' => ∃ b, e = .returned (.map (some b)) ∧ w.heap.size ≤ b ∧ SM w' b m (lstE (cl L H (wUp U V up) r m) (wUp U V up) L H m) up ∧ Below w.heap.size w w' := by
  obtain ⟨wo, wc, hwv, hww⟩ : ∃ wo wc, (if up = true then Value.slice uo m ucap else Value.slice vo m vcap) = .slice wo m wc ∧ IRow w wo m (wUp U V up) := by
    cases up
    · exact ⟨vo, vcap, rfl, hv⟩
    · exact ⟨uo, ucap, rfl, hu⟩
  have hWI : InF m (wUp U V up) := by cases up <;> assumption
  obtain ⟨W, hW⟩ : ∃ W, wUp U V up = W := ⟨_, rfl⟩
  rw [hW] at hww hWI ⊢
  clear hW hU hV hu hv
  have B0 := g9_new w (p := p) (ao := ao) (n := n) (cap := cap) (po := po) (k := k) (pcap := pcap) (eo := eo) (m := m) (ecap := ecap) (uo := uo) (ucap := ucap) (vo := vo) (vcap := vcap) (ma := ma) (me := me)
  have y0 := B0.c0
  have y1 := B0.c1
  have y2 := B0.c2
  have y3 := B0.c3
  have y4 := B0.c4
  have y5 := B0.c5
  have y6 := B0.c6
  have y7 := B0.c7
  go_enter Tryz.func114, Tryz.ntmps114
  go_wp2_with fail
  generalize (w.alloc (.cells #[.int .i64 p, .slice ao n cap, .slice po k pcap, .slice eo m ecap, .slice uo m ucap, .slice vo m vcap, .map (some ma), .map (some me)] 98)) = W0 at B0 y0 y1 y2 y3 y4 y5 y6 y7 ⊢
  have hWt := weights_any p ao n cap po k pcap eo m ecap uo ucap vo vcap ma me up W0
  rw [hwv] at hWt
  refine hWt.mono ?_
  clear hWt hwv
  rintro e w1 ⟨rfl, b1⟩
  have B1 := B0.next b1
  have y1' := B1.c3
  have hS := sumsFrom_any eo k m ecap L H wo wc W r hr hk hE hWI (by omega) w1 (he.below B1.bel (Nat.le_refl _)) (hww.below B1.bel (Nat.le_refl _))
  clear y0 y1 y2 y3 y4 y5 y6 y7
  go_wp2_with fail
  refine hS.mono ?_
  clear hS
  rintro e w2 ⟨rfl, b2⟩
  have B2 := B1.next b2
  have HQ : Hid (AHas (w2.alloc (.cells (arr fun _ => 0) 144)) w2.heap.size (fun _ => 0)) := ahas_new w2
  have PK : Hid (PutA w2 (cl L H W r m) ((w2.alloc (.cells (arr fun _ => 0) 144)).setRow w2.heap.size (arr (cl L H W r m)))) := putA_new w2 _
  have hmk := fun X => make_smap X
  obtain ⟨D, hD⟩ : ∃ D, cl L H W r m = D := ⟨_, rfl⟩
  have hDi : ∀ j, 0 ≤ D j ∧ D j ≤ 1000000000000 := fun j => by rw [← hD]; exact cl_in r hWI m (Nat.le_refl _) j
  rw [hD] at PK
  simp only [hD]
  go_wp2_with (first | (refine wpList_store_row rfl 144 _ _ rfl w2.heap.size (arr D) rfl rfl 144 (arr (fun _ => 0)) HQ.out (Tryz.infoArr _) (by rw [arr_size, arr_size]) (arr_one _) ?_; generalize hX : World.setRow _ _ _ = X; have PK' : PutA w2 D X := (by rw [← hX]; exact PK.out); clear hX PK HQ; obtain ⟨a1, a2, a3⟩ := PK'; have B3 := (B2.next a2).next ((Below.refl _ _).alloc (Nat.le_refl _) (.map #[] 0)); have y3 := B3.c3; have M3 := sm_new X up; rw [a3] at M3; have A3 := a1.below ((Below.refl _ X).alloc (Nat.le_refl _) (.map #[] 0)) a1.lt; have z3 : (X.alloc (.map #[] 0)).heap.size = w2.heap.size + 2 := (by simp; omega); have B2s := B2.sz; clear a2 a1) | fail)
  clear hmk
  generalize (X.alloc (.map #[] 0)) = Y at B3 y3 M3 A3 z3 ⊢
  clear B0 B1 B2 b1 b2 y1' a3
  obtain ⟨sb, hsb⟩ : ∃ sb, w2.heap.size = sb := ⟨_, rfl⟩
  obtain ⟨mb, hmb⟩ : ∃ mb, sb + 1 = mb := ⟨_, rfl⟩
  simp only [hsb] at M3 A3 z3 ⊢
  simp only [hmb] at M3 ⊢
  have hsm : w.heap.size + 1 ≤ sb ∧ w.heap.size ≤ mb ∧ sb ≠ mb := by
    have := B2s
    omega
  clear hsb y3
  go_loopw [29] (fun z wr => ∃ i : Nat, i ≤ m ∧ z = .int .i64 i ∧ G9 w wr p ao n cap po k pcap eo m ecap uo ucap vo vcap ma me ∧ AHas wr sb D ∧ SM wr mb i (lstE D W L H i) up) (fun z _ => m - (intOf z).toNat)
  case atStart => exact ⟨0, Nat.zero_le _, rfl, B3, A3, M3⟩
  case round =>
    obtain ⟨i, hi, rfl, B4, A4, M4⟩ := hrel
    by_cases hlt : i < m
    rotate_left
    · have hin : i = m := by omega
      subst hin
      go_wp2
      go_ret
      exact ⟨mb, rfl, hsm.2.1, by rw [hD]; exact M4, B4.bel⟩
    have hE4 := he.below B4.bel (Nat.le_refl _)
    have hW4 := hww.below B4.bel (Nat.le_refl _)
    obtain ⟨be, oe, e9, e0, e1⟩ := hE4 i hlt
    subst e9
    obtain ⟨bw, ow, e9, t0⟩ := hW4 i hlt
    subst e9
    have hb1 := (Below.refl wr.heap.size wr).alloc (Nat.le_refl _) (.cells #[.int .i64 (L i), .int .i64 (H i)] 62)
    have hEi := hE i hlt
    have hLn : (((L i).toNat : Nat) : Int) = L i := by omega
    have hHn : (((H i).toNat : Nat) : Int) = H i := by omega
    have A5 := A4.below hb1 A4.lt
    have s0 := A5.cell (j := (H i).toNat) (by omega)
    have s1 := A5.cell (j := (L i).toNat) (by omega)
    have t1 := keep_cell hb1 (Nat.le_refl _) t0
    have M5 := M4.below hb1
    have B5 := B4.next hb1
    have hWi := hWI i hlt
    have hD1 := hDi (L i).toNat
    have hwr : IntKind.i64.wrap (D (L i).toNat + W i) = D (L i).toNat + W i := by rw [IntKind.wrap_i64]; omega
    have HLN : Hid ((((L i).toNat : Nat) : Int) = L i ∧ (((H i).toNat : Nat) : Int) = H i) := ⟨hLn, hHn⟩
    clear hLn hHn
    have hH24 : H i < 24 := by omega
    have hL24 : L i < 24 := by omega
    have x0 : (wr.alloc (.cells #[.int .i64 (L i), .int .i64 (H i)] 62)).cell? ⟨wr.heap.size, 0, none⟩ = some (.int .i64 (L i)) := by simp [go_sem]
    have x1 : (wr.alloc (.cells #[.int .i64 (L i), .int .i64 (H i)] 62)).cell? ⟨wr.heap.size, 1, none⟩ = some (.int .i64 (H i)) := by simp [go_sem]
    go_wp2_with fail
    generalize (wr.alloc (.cells #[.int .i64 (L i), .int .i64 (H i)] 62)) = wa at x0 x1 s0 s1 t1 A5 M5 B5 ⊢
    generalize wr.heap.size = eb at x0 x1 ⊢
    clear e0 e1 t0 hb1 A4 M4 B4 hE4 hW4
    by_cases h1 : D (H i).toNat < 1000000000000
    rotate_left
    · go_quiet (fail)
      have hbd := below_drewN (Below.refl wa.heap.size wa) nq
      replace M5 := M5.below hbd
      replace A5 := A5.below hbd A5.lt
      replace B5 := B5.next hbd
      replace x1 := keep_cell hbd (Nat.le_refl _) x1
      clear hbd x0 s0 s1 t1
      generalize wa.drewN nq = wb at M5 A5 B5 x1 ⊢
      obtain ⟨v, hrun, ⟨vi, vu, rfl⟩, hv⟩ := M5.look (q := (H i).toNat) (by omega)
      rw [HLN.out.2] at hrun
      have hrun0 : (Instr.lookup 146 (.map (some mb)) (.int .i64 (H i)) true).run Tryz.prog wb = .ok (.tuple #[.agg #[.int .i64 vi, .bool vu], .bool (lstE D W L H i (H i).toNat).isSome]) wb := hrun 0
      clear hrun hv
      have hlb := (Below.refl wb.heap.size wb).alloc (Nat.le_refl _) (.cells #[.int .i64 vi, .bool vu] 104)
      have M6 := M5.below hlb
      have A6 := A5.below hlb A5.lt
      have B6 := B5.next hlb
      go_wp2
      exact ⟨⟨i + 1, by omega, by go_num, B6, A6, (M6.mono (by omega)).congr (fun q => (lstE_same (.inl (by simp [fitE]; omega)) q).symm)⟩, by simp [intOf]; omega⟩
    by_cases h2 : D (L i).toNat + W i = D (H i).toNat
    rotate_left
    · go_quiet (fail)
      have hbd := below_drewN (Below.refl wa.heap.size wa) nq
      replace M5 := M5.below hbd
      replace A5 := A5.below hbd A5.lt
      replace B5 := B5.next hbd
      replace x1 := keep_cell hbd (Nat.le_refl _) x1
      clear hbd x0 s0 s1 t1
      generalize wa.drewN nq = wb at M5 A5 B5 x1 ⊢
      obtain ⟨v, hrun, ⟨vi, vu, rfl⟩, hv⟩ := M5.look (q := (H i).toNat) (by omega)
      rw [HLN.out.2] at hrun
      have hrun0 : (Instr.lookup 146 (.map (some mb)) (.int .i64 (H i)) true).run Tryz.prog wb = .ok (.tuple #[.agg #[.int .i64 vi, .bool vu], .bool (lstE D W L H i (H i).toNat).isSome]) wb := hrun 0
      clear hrun hv
      have hlb := (Below.refl wb.heap.size wb).alloc (Nat.le_refl _) (.cells #[.int .i64 vi, .bool vu] 104)
      have M6 := M5.below hlb
      have A6 := A5.below hlb A5.lt
      have B6 := B5.next hlb
      go_wp2
      exact ⟨⟨i + 1, by omega, by go_num, B6, A6, (M6.mono (by omega)).congr (fun q => (lstE_same (.inl (by simp [fitE]; omega)) q).symm)⟩, by simp [intOf]; omega⟩
    have hfit : Hid (fitE D W L H i = true) := fitE_iff.2 ⟨h1, h2⟩
    go_quiet (fail)
    have hbd := below_drewN (Below.refl wa.heap.size wa) nq
    replace M5 := M5.below hbd
    replace A5 := A5.below hbd A5.lt
    replace B5 := B5.next hbd
    replace x1 := keep_cell hbd (Nat.le_refl _) x1
    clear hbd x0 s0 s1 t1
    generalize wa.drewN nq = wb at M5 A5 B5 x1 ⊢
    obtain ⟨v, hrun, ⟨vi, vu, rfl⟩, hv⟩ := M5.look (q := (H i).toNat) (by omega)
    rw [HLN.out.2] at hrun
    have hrun0 : (Instr.lookup 146 (.map (some mb)) (.int .i64 (H i)) true).run Tryz.prog wb = .ok (.tuple #[.agg #[.int .i64 vi, .bool vu], .bool (lstE D W L H i (H i).toNat).isSome]) wb := hrun 0
    clear hrun hv
    have hlb := (Below.refl wb.heap.size wb).alloc (Nat.le_refl _) (.cells #[.int .i64 vi, .bool vu] 104)
    have M6 := M5.below hlb
    have A6 := A5.below hlb A5.lt
    have B6 := B5.next hlb
    cases hq : lstE D W L H i (H i).toNat with
    | some i' =>
      rw [hq] at hrun0
      have HS : Hid ((lstE D W L H i (H i).toNat).isSome = true) := by rw [hq]; rfl
      clear hq
      go_wp2
      exact ⟨⟨i + 1, by omega, by go_num, B6, A6, (M6.mono (by omega)).congr (fun q => (lstE_same (.inr HS.out) q).symm)⟩, by simp [intOf]; omega⟩
    | none =>
      rw [hq] at hrun0
      have HS : Hid (lstE D W L H i (H i).toNat = none) := hq
      clear hq
      have x2 := keep_cell hlb (Nat.le_refl _) x1
      go_wp2_with (first | (at_mapUpdate; refine wpList_smput rfl _ _ _ rfl mb i rfl M6 (by omega) (H i).toNat i (by omega) (by rw [HLN.out.2]; rfl) rfl ?_; intro w9 M9 hg9) | fail)
      exact ⟨⟨i + 1, by omega, by go_num, B6.far (gr_below hg9 (by omega) B6.sz), A6.of_block (hg9.block sb A6.lt (by simp; omega)), M9.congr (fun z => (lstE_new HS.out hfit.out z).symm)⟩, by simp [intOf]; omega⟩

end Go.Proofs.YtokaechbmnbbiabGreat
