/-
  The program's climbed: the steps by which a climb comes to a rank, from there down.
-/
import Derived.Test.YtokaechbmnbbiabGreatRtLP
import Derived.Test.YtokaechbmnbbiabGreatRtOP
import Derived.Test.YtokaechbmnbbiabGreatPack5
set_option linter.unusedVariables false
set_option linter.unusedSimpArgs false
namespace Go.Proofs.YtokaechbmnbbiabGreat
open Go.RowKit Go.Maps Go.Deep Go.Joins
attribute [local go_sem ↓] Go.wp_at_zero Go.wp_at_succ

structure ClK (w w1 wr : World) (p : Int) (ao : Option Addr) (n cap : Nat) (po : Option Addr) (k pcap : Nat) (eo : Option Addr) (m ecap : Nat) (uo : Option Addr) (ucap : Nat) (vo : Option Addr) (vcap : Nat) (ma me : Nat) (D W L H : Nat → Int) (Tot : List Nat) (mb : Nat) (up : Bool) (q : Nat) (x g c : Nat) (pre : List Nat) (nb : Nat) (vi : Int) (vu : Bool) : Prop where
  xq : x ≤ q
  tot : pre ++ chE D W L H m x x = Tot
  box : G9 w wr p ao n cap po k pcap eo m ecap uo ucap vo vcap ma me
  map : SM wr mb m (lstE D W L H m) up
  own : SOwn wr w1.heap.size (some ⟨g, 0, none⟩) c (pre.map fun i => (i, up))
  nxt : VHas wr nb 104 2 (me2 (.int .i64 vi) (.bool vu))
  val : ∀ i, lstE D W L H m x = some i → vi = (i : Int) ∧ vu = up
  ne : w1.heap.size ≤ nb ∧ nb ≠ g
  sz : w1.heap.size ≤ wr.heap.size
  len : pre.length + x ≤ q
theorem stq_new (w : World) (i : Int) (u : Bool) : VHas (w.alloc (.cells #[.int .i64 i, .bool u] 104)) w.heap.size 104 2 (me2 (.int .i64 i) (.bool u)) :=
  ⟨_, Go.Deep.blk_alloc_new _ _, by simp, fun j hj => by
    have : j = 0 ∨ j = 1 := by omega
    rcases this with rfl | rfl <;> rfl⟩
theorem srow_one {w : World} {b i : Nat} {u : Bool} (h0 : w.cell? ⟨b, 0, none⟩ = some (.int .i64 (i : Int))) (h1 : w.cell? ⟨b, 1, none⟩ = some (.bool u)) : SRow w b 0 [(i, u)] := fun j e u' hj => by
  match j, hj with
  | 0, hj => simp at hj; obtain ⟨rfl, rfl⟩ := hj; exact ⟨h0, h1⟩
  | j + 1, hj => simp at hj

set_option maxRecDepth 100000 in
set_option maxHeartbeats 8000000 in


theorem climbed_any (p : Int) (ao : Option Addr) (n cap : Nat) (po : Option Addr) (k pcap : Nat) (eo : Option Addr) (m ecap : Nat) (L H : Nat → Int) (uo : Option Addr) (ucap : Nat) (U : Nat → Int) (vo : Option Addr) (vcap : Nat) (V : Nat → Int) (ma me : Nat) (r q : Nat) (up : Bool) (hr : r < k) (hq : q < k) (hk : k ≤ 24) (hd : edB (k : Int) L H m = true) (hE : ∀ i, i < m → 0 ≤ L i ∧ L i < H i ∧ H i < (k : Int)) (hU : InF m U) (hV : InF m V) (hm : m ≤ 100000) (w : World) (he : ERow w eo m L H) (hu : IRow w uo m U) (hv : IRow w vo m V) :
    Calls Tryz.prog 70 #[.agg #[.int .i64 p, .slice ao n cap, .slice po k pcap, .slice eo m ecap, .slice uo m ucap, .slice vo m vcap, .map (some ma), .map (some me)], .int .i64 r, .int .i64 q, .bool up] w fun e w' => ∃ g c, e = .returned (.slice (some ⟨g, 0, none⟩) (chE (cl L H (wUp U V up) r m) (wUp U V up) L H m q q).length c) ∧ SOwn w' w.heap.size (some ⟨g, 0, none⟩) c ((chE (cl L H (wUp U V up) r m) (wUp U V up) L H m q q).map fun i => (i, up)) ∧ Below w.heap.size w w' := by
  have hWI : InF m (wUp U V up) := by cases up <;> assumption
  have C := clb_cl (s := r) hd hE hWI
  have hLS := fun W h1 h2 h3 => lastSteps_any p ao n cap po k pcap eo m ecap L H uo ucap U vo vcap V ma me r up hr hk hE hU hV hm W h1 h2 h3
  obtain ⟨W, hW⟩ : ∃ W, wUp U V up = W := ⟨_, rfl⟩
  rw [hW] at C hLS ⊢
  obtain ⟨D, hD⟩ : ∃ D, cl L H W r m = D := ⟨_, rfl⟩
  rw [hD] at C hLS ⊢
  clear hW hD hWI hU hV
  obtain ⟨Tot, hTot⟩ : ∃ Tot, chE D W L H m q q = Tot := ⟨_, rfl⟩
  rw [hTot]
  have B0 := g9_new w (p := p) (ao := ao) (n := n) (cap := cap) (po := po) (k := k) (pcap := pcap) (eo := eo) (m := m) (ecap := ecap) (uo := uo) (ucap := ucap) (vo := vo) (vcap := vcap) (ma := ma) (me := me)
  have y0 := B0.c0
  have y1 := B0.c1
  have y2 := B0.c2
  have y3 := B0.c3
  have y4 := B0.c4
  have y5 := B0.c5
  have y6 := B0.c6
  have y7 := B0.c7
  go_enter Tryz.func70, Tryz.ntmps70
  go_wp2_with fail
  generalize (w.alloc (.cells #[.int .i64 p, .slice ao n cap, .slice po k pcap, .slice eo m ecap, .slice uo m ucap, .slice vo m vcap, .map (some ma), .map (some me)] 98)) = W0 at B0 y0 y1 y2 y3 y4 y5 y6 y7 ⊢
  refine (hLS W0 (he.below B0.bel (Nat.le_refl _)) (hu.below B0.bel (Nat.le_refl _)) (hv.below B0.bel (Nat.le_refl _))).mono ?_
  clear y0 y1 y2 y3 y4 y5 y6 y7 hLS
  rintro e w1 ⟨mb, rfl, hmb, M1, b1⟩
  have B1 := B0.next b1
  have hW0 := B0.sz
  have ha := (Below.refl w1.heap.size w1).alloc (Nat.le_refl _) (.cells #[] 104)
  have S2 := sown_empty w1 (base := w1.heap.size) (Nat.le_refl _)
  have M2 := M1.below ha
  have B2 := B1.next ha
  have hml := M1.lt
  have hs1 := b1.size
  clear B0 B1 M1 b1
  obtain ⟨v, hrun, ⟨vi, vu, rfl⟩, hv9⟩ := M2.look (q := q) (by omega)
  have hrun0 : (Instr.lookup 146 (.map (some mb)) (.int .i64 (q : Int)) true).run Tryz.prog (w1.alloc (.cells #[] 104)) = .ok (.tuple #[.agg #[.int .i64 vi, .bool vu], .bool (lstE D W L H m q).isSome]) (w1.alloc (.cells #[] 104)) := hrun 0
  clear hrun
  go_wp2_with fail
  have K0 : ClK w w1 ((w1.alloc (.cells #[] 104)).alloc (.cells #[.int .i64 vi, .bool vu] 104)) p ao n cap po k pcap eo m ecap uo ucap vo vcap ma me D W L H Tot mb up q q w1.heap.size 0 [] (w1.heap.size + 1) vi vu := by
    have hb := (Below.refl _ (w1.alloc (.cells #[] 104))).alloc (Nat.le_refl _) (.cells #[.int .i64 vi, .bool vu] 104)
    have hN := stq_new (w1.alloc (.cells #[] 104)) vi vu
    simp only [World.size_alloc] at hN
    exact ⟨Nat.le_refl _, hTot, B2.next hb, M2.below hb, S2.next hb, hN, fun i hi => by have := hv9 i hi; simpa using this, by omega, by simp; omega, by simp⟩
  generalize ((w1.alloc (.cells #[] 104)).alloc (.cells #[.int .i64 vi, .bool vu] 104)) = W3 at K0 ⊢
  clear S2 M2 B2 ha hv9 hrun0
  have hszw : w.heap.size + 1 ≤ w1.heap.size ∧ mb < w1.heap.size := by omega
  go_loopw [2, 10, 11, 12] (fun z2 z10 z11 z12 wr => ∃ (x g c : Nat) (pre : List Nat) (nb : Nat) (vi : Int) (vu : Bool), z2 = .int .i64 (x : Int) ∧ z10 = .slice (some ⟨g, 0, none⟩) pre.length c ∧ z11 = .pointer (some ⟨nb, 0, none⟩) ∧ z12 = .bool (lstE D W L H m x).isSome ∧ ClK w w1 wr p ao n cap po k pcap eo m ecap uo ucap vo vcap ma me D W L H Tot mb up q x g c pre nb vi vu) (fun z2 _ _ _ _ => (intOf z2).toNat)
  case atStart => exact ⟨q, _, 0, [], _, vi, vu, rfl, rfl, rfl, rfl, K0⟩
  case round =>
    clear K0
    obtain ⟨x, g, c, pre, nb, vi, vu, rfl, rfl, rfl, rfl, K⟩ := hrel
    cases hx : lstE D W L H m x with
    | none =>
      have hT := K.tot
      rw [chE_none hx, List.append_nil] at hT
      subst hT
      have hB := K.box.bel
      have hO := K.own
      go_wp2
      go_ret
      exact ⟨g, c, rfl, hO.from (by omega), hB⟩
    | some i =>
      have S := C.step hx
      obtain ⟨rfl, rfl⟩ := K.val i hx
      obtain ⟨be, oe, e9, _⟩ := he i S.1
      subst e9
      have hb1 := (Below.refl wr.heap.size wr).alloc (Nat.le_refl _) (.cells #[.int .i64 (i : Int), .bool vu] 104)
      have n0 : wr.cell? ⟨nb, 0, none⟩ = some (.int .i64 (i : Int)) := K.nxt.cell (j := 0) (by omega)
      have n1 : wr.cell? ⟨nb, 1, none⟩ = some (.bool vu) := K.nxt.cell (j := 1) (by omega)
      have hlen := K.len
      have hxq := K.xq
      have hgl := K.own.lt
      have hnl := K.nxt.lt
      have hne := K.ne
      have hsz := K.sz
      have HT : Hid (pre ++ chE D W L H m x x = Tot) := K.tot
      have O5 := K.own.next hb1
      have X5 := K.nxt.next hb1
      have M5 := K.map.below hb1
      have B5 := K.box.next hb1
      have r5 := srow_one (w := wr.alloc (.cells #[.int .i64 (i : Int), .bool vu] 104)) (b := wr.heap.size) (i := i) (u := vu) (by simp [go_sem]) (by simp [go_sem])
      have hsm : (Option.isSome (some i)) = true := rfl
      clear K
      go_wp2_with (first | (at_builtin; refine wpList_appO rfl (.tmp 31) (.tmp 33) rfl 34 rfl w1.heap.size c (some ⟨g, 0, none⟩) (pre.map fun i => (i, vu)) [(i, vu)] (by rw [List.length_map]; rfl) O5 wr.heap.size 0 1 1 rfl rfl r5 (by omega) (by simp; omega) (by omega) (by simp; omega) ?_; intro g9 c9 w9 O9 hg9 hat9; simp only [List.length_map]; have hg9' : (wr.alloc (.cells #[.int .i64 (i : Int), .bool vu] 104)).grownBy w9 (some g) := hg9; have X9 := X5.grown hg9' (by simp; omega); have M9 := M5.grown hg9' (by omega); have B9 := B5.far (gr_below hg9' (by omega) B5.sz); have hEr := he.below B9.bel (Nat.le_refl _); obtain ⟨be', oe', e9, e0, e1⟩ := hEr i S.1; cases e9; have hs9 := hg9'.size; have y3 := B9.c3; have n0' : w9.cell? ⟨nb, 0, none⟩ = some (.int .i64 (i : Int)) := X9.cell (j := 0) (by omega); have n1' : w9.cell? ⟨nb, 1, none⟩ = some (.bool vu) := X9.cell (j := 1) (by omega); have hb9 := (Below.refl w9.heap.size w9).alloc (Nat.le_refl _) (.cells #[.int .i64 (i : Int), .bool vu] 104); have M10 := M9.below hb9; have hLn : (((L i).toNat : Nat) : Int) = L i := (by have := hE i S.1; omega); obtain ⟨v', hrun, ⟨vi', vu', rfl⟩, hv9⟩ := M10.look (q := (L i).toNat) (by omega); rw [hLn] at hrun; have hrun0 : (Instr.lookup 146 (.map (some mb)) (.int .i64 (L i)) true).run Tryz.prog (w9.alloc (.cells #[.int .i64 (i : Int), .bool vu] 104)) = .ok (.tuple #[.agg #[.int .i64 vi', .bool vu'], .bool (lstE D W L H m (L i).toNat).isSome]) (w9.alloc (.cells #[.int .i64 (i : Int), .bool vu] 104)) := hrun 0; clear hrun; have HLN : Hid ((((L i).toNat : Nat) : Int) = L i) := hLn; clear hLn) | fail)
      have hb10 := (Below.refl w9.heap.size w9).alloc (Nat.le_refl _) (.cells #[.int .i64 vi', .bool vu'] 104)
      have h9l := O9.lt
      have hsz5 : (wr.alloc (.cells #[.int .i64 (i : Int), .bool vu] 104)).heap.size = wr.heap.size + 1 := by simp
      have hch : chE D W L H m x x = i :: chE D W L H m (L i).toNat (L i).toNat := by
        obtain ⟨x', rfl⟩ : ∃ x', x = x' + 1 := ⟨x - 1, by omega⟩
        rw [chE_some hx, chE_fuel C x' (L i).toNat (L i).toNat (by omega) (Nat.le_refl _)]
      refine ⟨⟨(L i).toNat, g9, c9, pre ++ [i], w9.heap.size, vi', vu', by rw [HLN.out], by simp, rfl, rfl, ⟨by omega, ?_, B9.next hb10, M9.below hb10, ?_, stq_new w9 vi' vu', fun j hj => by have := hv9 j hj; simpa using this, by omega, by simp; omega, by simp; omega⟩⟩, by simp [intOf]; omega⟩
      · rw [← HT.out, hch]; simp
      · rw [List.map_append]
        exact O9.next hb10

end Go.Proofs.YtokaechbmnbbiabGreat
