/-
  Helpers: RoomW, MetI, EdWf, TriIt, TriSeq, RangeBox.
-/
import Derived.Test.YthmpliljffmmcaaGreatDoorPack1
import Derived.Test.YthmpliljffmmcaaGreatDoorPack20
import Derived.Test.YthmpliljffmmcaaGreatDoorPack3
import Derived.Test.YthmpliljffmmcaaGreatDoorPack19
import Derived.Test.YthmpliljffmmcaaGreatDoorPack15
import Derived.Test.YthmpliljffmmcaaGreatDoorPack6
import Derived.Sort.QuietIn
set_option linter.unusedVariables false
set_option linter.unusedSimpArgs false
namespace Go.Proofs.YthmpliljffmmcaaGreatDoor
section
open Go.RowKit Go.Deep Go.Joins Go.Maps
attribute [local go_sem ↓] Go.wp_at_zero Go.wp_at_succ
set_option maxHeartbeats 2000000 in
theorem farWhereNone_any (b m : Nat) (f : Nat → Int) (hm : m ≤ 1048576) (w : World) (h : IHas w b m f) :
    Calls Tryz.prog 149 #[.slice (some ⟨b, 0, none⟩) m m] w fun e w' => (∃ v, e = .returned v) ∧ IHas w' b m (fun j => if f j = 0 then 1000000000000 else f j) ∧ w.grownBy w' (some b) := by
  go_enter Tryz.func149, Tryz.ntmps149
  go_wp2_with fail
  go_loopw [6] (fun x wr => ∃ j : Nat, j ≤ m ∧ x = .int .i64 j ∧ IHas wr b m (fun q => if q < j then (if f q = 0 then 1000000000000 else f q) else f q) ∧ w.grownBy wr (some b)) (fun x _ => m - (intOf x).toNat)
  case atStart => exact ⟨0, Nat.zero_le _, rfl, h.congr (fun q _ => by simp), World.grownBy.refl _ _⟩
  case round =>
    obtain ⟨j, hj, rfl, hI, hg⟩ := hrel
    by_cases hlt : j < m
    rotate_left
    · have e : j = m := by omega
      subst e
      go_wp2
      go_end0
      exact ⟨⟨_, rfl⟩, hI.congr (fun q hq => by simp [hq]), hg⟩
    have hlt' : (j : Int) < (m : Int) := by omega
    have hj0 : (0 : Int) ≤ (j : Int) := by omega
    have c0 := hI.cell hlt
    have z0 := hI.frozen j
    simp only [Nat.lt_irrefl, if_false] at c0
    by_cases hf : f j = 0
    · have R := (hI.set j 1000000000000).congr (g := fun q => if q < j + 1 then (if f q = 0 then 1000000000000 else f q) else f q) (fun q hq => by
        by_cases e : q = j
        · subst e; simp [hf]
        · simp only [e, if_false]
          by_cases e2 : q < j
          · have e3 : q < j + 1 := by omega
            simp [e2, e3]
          · have e3 : ¬ q < j + 1 := by omega
            simp [e2, e3])
      have hg2 := hg.trans (gr_setCell wr b j (.int .i64 1000000000000))
      clear hI hg
      go_wp2
      go_roundw
      case rel => exact ⟨j + 1, by omega, by go_num, R, hg2⟩
      case measure => simp [intOf]; omega
    · have R := hI.congr (g := fun q => if q < j + 1 then (if f q = 0 then 1000000000000 else f q) else f q) (fun q hq => by
        by_cases e : q = j
        · subst e; simp [hf]
        · by_cases e2 : q < j
          · have e3 : q < j + 1 := by omega
            simp [e2, e3]
          · have e3 : ¬ q < j + 1 := by omega
            simp [e2, e3])
      clear hI
      go_wp2
      go_roundw
      case rel => exact ⟨j + 1, by omega, by go_num, R, hg⟩
      case measure => simp [intOf]; omega
theorem gr_setRow (w : World) (g : Nat) (cs : Array Value) : w.grownBy (w.setRow g cs) (some g) :=
  ⟨rfl, rfl, rfl, by rw [setRow_size]; exact Nat.le_refl _, fun k hk hne => setRow_other w g k cs (fun e => hne (by rw [e]))⟩
theorem run_clear_ints (w : World) (b m cap : Nat) (f : Nat → Int) (h : IHas w b m f) (ty : TypeId) :
    ∃ w', (Builtin.clear_ #[27] ty #[.slice (some ⟨b, 0, none⟩) m cap]).run Tryz.prog w = .ok (.tuple #[]) w' ∧ IHas w' b m (fun _ => 0) ∧ w.grownBy w' (some b) := by
  obtain ⟨cur, hh, hs, hc⟩ := h
  obtain ⟨i0, hi0, hz0, hz1, hz2⟩ := info_parts Tryz.infoInt
  match m, hs, hc with
  | 0, hs, hc => exact ⟨w, by simp [Builtin.clear_, Sem.run_bind, run_underlying Tryz.underlying27], ⟨cur, hh, hs, fun j hj => by omega⟩, World.grownBy.refl _ _⟩
  | m + 1, hs, hc =>
    have hz : (Builtin.zeroCells (Value.int .i64 0).cells (m + 1)).toList = List.replicate (m + 1) (.int .i64 0) := by
      have h1 : (Value.int .i64 0).cells = #[.int .i64 0] := rfl
      rw [h1]
      apply List.eq_replicate_iff.2
      refine ⟨by simp [Builtin.zeroCells], fun v hv => ?_⟩
      simp [Builtin.zeroCells] at hv
      obtain ⟨_, _, rfl⟩ := hv
      simp [Nat.mod_one]
    have hr := run_storeCells_at (P := Tryz.prog) b 0 2 (List.replicate (m + 1) (.int .i64 0)) 0 cur w hh (by simp; omega) (by intro v hv; rw [(List.mem_replicate.1 hv).2]; rfl)
    refine ⟨w.setRow b (cur.toList.take (0 + 0) ++ List.replicate (m + 1) (Value.int .i64 0) ++ cur.toList.drop (0 + 0 + (List.replicate (m + 1) (Value.int .i64 0)).length)).toArray, ?_, ?_, gr_setRow w b _⟩
    rotate_left
    · refine ⟨_, setRow_heap w b cur _ _ _ hh, ?_, fun j hj => ?_⟩
      · simp <;> omega
      · simp [List.getElem?_append, List.getElem?_replicate, hj]
    · have hzv : (zeroValue 2).run Tryz.prog w = .ok (.int .i64 0) w := by simp [zeroValue, typeInfo, hi0, hz0]
      simp [Builtin.clear_, Sem.run_bind, run_underlying Tryz.underlying27, hzv, hz] at hr ⊢
      rw [hr]
      rfl
theorem Row.turn {W W' : World} {ao : Option Addr} {n : Nat} {F T G : Nat → Int} {c : Nat} (h : Row W ao n F T G) (hg : W.grownBy W' (some c)) (hne : 0 < n → ∀ a, ao = some a → a.block ≠ c) : Row W' ao n F T G := fun k hk => by
  obtain ⟨b, o, e, c0, c1, c2⟩ := h k hk
  have hb : b ≠ c := hne (by omega) _ e
  have hl := lt_of_cell c0
  have hbl := hg.block b hl (by simp; exact hb)
  exact ⟨b, o, e, by simpa [World.cell?, hbl] using c0, by simpa [World.cell?, hbl] using c1, by simpa [World.cell?, hbl] using c2⟩
theorem cell_turn {W W' : World} {b o c : Nat} {v : Value} (h : W.cell? ⟨b, o, none⟩ = some v) (hg : W.grownBy W' (some c)) (hne : b ≠ c) : W'.cell? ⟨b, o, none⟩ = some v := by
  have hbl := hg.block b (lt_of_cell h) (by simp; exact hne)
  simpa [World.cell?, hbl] using h
theorem look_edge {W : World} {bm m : Nat} {L H : Nat → Int} (h : OMap W bm m L H) (hw : EWf L H m) {e : Nat} (he : e < m) (hu : ∀ q, q < m → L q = L e → H q = H e → q = e) {a c : Int} (ha : L e = a) (hc : H e = c) :
    ∀ q, (Instr.lookup 188 (.map (some bm)) (.agg #[.int .i64 a, .int .i64 c]) false).run Tryz.prog (W.drewN q) = .ok (.int .i64 (e : Int)) (W.drewN q) := fun q => by
  subst ha
  subst hc
  have hkey := key_edge (L e) (H e) (hw e he).1 (hw e he).2
  obtain ⟨c, hrun, hat, _⟩ := (ownsMap_block (w' := W.drewN q) h rfl).lookup_int Tryz.keyLawE Tryz.underlying188 Tryz.underlying3 (Tryz.mapZeroE _) hkey
  rcases enums_look L H (L e) (H e) (hw e he).1 (hw e he).2 m hw with ⟨_, h2⟩ | ⟨x, hx, h1, h2, _, h4⟩
  · exact absurd ⟨rfl, rfl⟩ (h2 e he)
  · have hxE : x = e := hu x hx h1 h2
    rw [h4, hxE] at hat
    simp only [DataW.lit.injEq, Lit.int.injEq, true_and] at hat
    rw [hrun, hat]
set_option maxRecDepth 100000 in
set_option maxHeartbeats 4000000 in
theorem weigh_any (w0 : World) (k n m : Nat) (p : Int) (ao : Option Addr) (cap : Nat) (F T G P L H : Nat → Int) (eo : Option Addr) (ecap b g rcap bm bU bV : Nat) (U V : Nat → Int) (hE : CEnv k n m F T G P L H) (hao : 0 < n → ∀ a, ao = some a → a.block ≠ bU ∧ a.block ≠ bV) (w : World) (hr : Row w ao n F T G) (hR : Room w0 k P eo m ecap L H b g rcap bm bU bV U V w) :
    Calls Tryz.prog 143 #[.pointer (some ⟨b, 0, none⟩), .agg #[.int .i64 p, .slice ao n cap]] w fun e w' => (∃ v, e = .returned v) ∧ Room w0 k P eo m ecap L H b g rcap bm bU bV (w0U n F T G P L H) (w0D n F T G P L H) w' ∧ Turns w w' [bU, bV] := by
  have hbl : b < w.heap.size := (Array.getElem?_eq_some_iff.1 hR.box).1
  have hUl := hR.up.lt
  have hVl := hR.dn.lt
  have hm := hE.m1000
  have hn := hE.n100
  have R0 : Hid (Room w0 k P eo m ecap L H b g rcap bm bU bV U V (w.alloc (.cells #[.int .i64 p, .slice ao n cap] 26))) := hR.next (alloc_b _ _)
  have c3 : w.cell? ⟨b, 3, none⟩ = some (.slice (some ⟨bU, 0, none⟩) m m) := hR.cell rfl
  have g1 : (w.alloc (.cells #[.int .i64 p, .slice ao n cap] 26)).cell? ⟨w.heap.size, 1, none⟩ = some (.slice ao n cap) := by simp [go_sem]
  have hr0 := hr.alloc (.cells #[.int .i64 p, .slice ao n cap] 26)
  have hA : 0 < n → ∀ a, ao = some a → a.block ≠ bU := fun h a e => (hao h a e).1
  have hA' : 0 < n → ∀ a, ao = some a → a.block ≠ bV := fun h a e => (hao h a e).2
  have HAO : Hid ((0 < n → ∀ a, ao = some a → a.block ≠ bU) ∧ (0 < n → ∀ a, ao = some a → a.block ≠ bV)) := ⟨hA, hA'⟩
  have HR0 : Hid (Row (w.alloc (.cells #[.int .i64 p, .slice ao n cap] 26)) ao n F T G) := hr0
  clear hR hr hA hA' hao hr0
  obtain ⟨w1, hrun1, hI1, hg1⟩ := run_clear_ints (w.alloc (.cells #[.int .i64 p, .slice ao n cap] 26)) bU m m U R0.out.up 0
  have R1 := R0.out.turnU hg1 hI1
  have HR1 := HR0.out.turn hg1 HAO.out.1
  replace g1 := cell_turn g1 hg1 (by omega)
  have c4 : w1.cell? ⟨b, 4, none⟩ = some (.slice (some ⟨bV, 0, none⟩) m m) := R1.cell rfl
  obtain ⟨w2, hrun2, hI2, hg2⟩ := run_clear_ints w1 bV m m V R1.dn 0
  have R2 := (R1.turnD hg2 hI2).congr (U' := wzU F T G P L H 0) (V' := wzD F T G P L H 0) (fun _ _ => rfl) (fun _ _ => rfl)
  have HR2 := HR1.turn hg2 HAO.out.2
  replace g1 := cell_turn g1 hg2 (by omega)
  have hs1 := hg1.size
  have hs2 := hg2.size
  have HTU : Hid (Turns w w2 [bU, bV]) := ((Turns.of_below (alloc_b w _) nl _).trans ((Turns.of_grown hg1).more (by simp))).trans ((Turns.of_grown hg2).more (by simp))
  simp only [World.size_alloc] at hs1
  clear hI1 R1 HR1 R0 HR0 hg1 hI2 hg2
  have HR3 : Hid (Row w2 ao n F T G) := HR2
  have R3 : Hid (Room w0 k P eo m ecap L H b g rcap bm bU bV (wzU F T G P L H 0) (wzD F T G P L H 0) w2) := R2
  clear R2 HR2
  go_enter Tryz.func143, Tryz.ntmps143
  go_wp2_with fail
  go_loopw [21] (fun x wr => ∃ t : Nat, t ≤ n ∧ x = .int .i64 t ∧ Room w0 k P eo m ecap L H b g rcap bm bU bV (wzU F T G P L H t) (wzD F T G P L H t) wr ∧ Row wr ao n F T G ∧ w.heap.size < wr.heap.size ∧ Turns w wr [bU, bV]) (fun x _ => n - (intOf x).toNat)
  case atStart => exact ⟨0, Nat.zero_le _, rfl, R3.out, HR3.out, by omega, HTU.out⟩
  case round =>
    clear R3 HR3 hrun1 hrun2 c3 c4 g1 HTU
    obtain ⟨t, ht, rfl, hR, hrow, hsz, htu⟩ := hrel
    have HTU : Hid (Turns w wr [bU, bV]) := htu
    clear htu
    by_cases hlt : t < n
    rotate_left
    · have e : t = n := by omega
      subst e
      have HR9 : Hid (Room w0 k P eo m ecap L H b g rcap bm bU bV (wzU F T G P L H t) (wzD F T G P L H t) wr) := hR
      have c3 : wr.cell? ⟨b, 3, none⟩ = some (.slice (some ⟨bU, 0, none⟩) m m) := hR.cell rfl
      clear hR
      go_wp2_with fail
      refine (farWhereNone_any bU m _ (by omega) _ HR9.out.up).mono ?_
      rintro v1 w5 ⟨⟨v, rfl⟩, hI5, hg5⟩
      have R5 := HR9.out.turnU hg5 hI5
      have HT5 : Hid (Turns w w5 [bU, bV]) := HTU.out.trans ((Turns.of_grown hg5).more (by simp))
      have c4 : w5.cell? ⟨b, 4, none⟩ = some (.slice (some ⟨bV, 0, none⟩) m m) := R5.cell rfl
      clear HR9 hI5 hg5 c3
      go_wp2_with fail
      refine (farWhereNone_any bV m _ (by omega) _ R5.dn).mono ?_
      rintro v1 w6 ⟨⟨v, rfl⟩, hI6, hg6⟩
      have R6 := (R5.turnD hg6 hI6).congr (U' := w0U t F T G P L H) (V' := w0D t F T G P L H) (fun j _ => hE.farU j) (fun j _ => hE.farD j)
      have HT6 : Hid (Turns w w6 [bU, bV]) := HT5.out.trans ((Turns.of_grown hg6).more (by simp))
      clear R5 hI6 hg6 c4
      go_wp2
      go_end0
      exact ⟨⟨_, rfl⟩, R6, HT6.out⟩
    obtain ⟨x, y, e, hx, hy, he, ⟨ex, f0, f1⟩, ⟨ey, t0, t1⟩, ⟨rx, ry⟩, hcase⟩ := hE.arc t hlt
    obtain ⟨tF, hF⟩ : ∃ tF : Nat, F t = (tF : Int) := ⟨(F t).toNat, by omega⟩
    obtain ⟨tT, hT⟩ : ∃ tT : Nat, T t = (tT : Int) := ⟨(T t).toNat, by omega⟩
    have htF : (F t).toNat = tF := by omega
    have htT : (T t).toNat = tT := by omega
    rw [htF] at rx
    rw [htT] at ry
    obtain ⟨ab, aoff, hao, a0, a1, a2⟩ := hrow t hlt
    subst hao
    have hal := lt_of_cell a0
    have lF : tF < k := by omega
    have lT : tT < k := by omega
    have c1 : wr.cell? ⟨b, 1, none⟩ = some (.slice (some ⟨g, 0, none⟩) k rcap) := hR.cell rfl
    have c2 : wr.cell? ⟨b, 2, none⟩ = some (.map (some bm)) := hR.cell rfl
    have c3 : wr.cell? ⟨b, 3, none⟩ = some (.slice (some ⟨bU, 0, none⟩) m m) := hR.cell rfl
    have c4 : wr.cell? ⟨b, 4, none⟩ = some (.slice (some ⟨bV, 0, none⟩) m m) := hR.cell rfl
    have k1 : wr.cell? ⟨g, tF, none⟩ = some (.int .i64 (x : Int)) := by rw [← rx]; exact hR.rks.cell lF
    have k2 : wr.cell? ⟨g, tT, none⟩ = some (.int .i64 (y : Int)) := by rw [← ry]; exact hR.rks.cell lT
    have hbl' : b < wr.heap.size := by omega
    have hgl := hR.rks.lt
    have hml := World.ownsMap.lt hR.nos
    have iF : (tF : Int) < (k : Int) := by omega
    have iT : (tT : Int) < (k : Int) := by omega
    have t9 : (0 : Int) ≤ (t : Int) := by omega
    have t8 : (t : Int) < (n : Int) := by omega
    have e9 : (e : Int) < (m : Int) := by omega
    have R1 : Hid (Room w0 k P eo m ecap L H b g rcap bm bU bV (wzU F T G P L H t) (wzD F T G P L H t) (wr.alloc (.cells #[.int .i64 (tF : Int), .int .i64 (tT : Int), .int .i64 (G t)] 67))) := hR.next (alloc_b _ _)
    have HRW : Hid (Row (wr.alloc (.cells #[.int .i64 (tF : Int), .int .i64 (tT : Int), .int .i64 (G t)] 67)) (some ⟨ab, aoff, none⟩) n F T G) := hrow.alloc _
    clear hR hrow rx ry htF htT
    go_wp2
    go_quiet (fail)
    have hd1 := below_drewN (Below.refl (wr.alloc (.cells #[.int .i64 (tF : Int), .int .i64 (tT : Int), .int .i64 (G t)] 67)).heap.size (wr.alloc (.cells #[.int .i64 (tF : Int), .int .i64 (tT : Int), .int .i64 (G t)] 67))) nq
    have R2 := R1.out.next hd1
    have HR2 : Hid (Row ((wr.alloc (.cells #[.int .i64 (tF : Int), .int .i64 (tT : Int), .int .i64 (G t)] 67)).drewN nq) (some ⟨ab, aoff, none⟩) n F T G) := HRW.out.below hd1 nl
    have g2 : ((wr.alloc (.cells #[.int .i64 (tF : Int), .int .i64 (tT : Int), .int .i64 (G t)] 67)).drewN nq).cell? ⟨wr.heap.size, 2, none⟩ = some (.int .i64 (G t)) := by simp [go_sem]
    have hs9 := hd1.size
    have HT1 : Hid (Turns w ((wr.alloc (.cells #[.int .i64 (tF : Int), .int .i64 (tT : Int), .int .i64 (G t)] 67)).drewN nq) [bU, bV]) := (HTU.out.trans (Turns.of_below (alloc_b wr _) nl _)).trans (Turns.of_below hd1 nl _)
    simp only [World.size_alloc] at hs9
    clear R1 HRW hd1 a0 a1 a2 c1 c2 c3 c4 k1 k2
    generalize (wr.alloc (.cells #[.int .i64 (tF : Int), .int .i64 (tT : Int), .int .i64 (G t)] 67)).drewN nq = W1 at R2 HR2 g2 hs9 HT1 ⊢
    have c2 : W1.cell? ⟨b, 2, none⟩ = some (.map (some bm)) := R2.cell rfl
    have c3 : W1.cell? ⟨b, 3, none⟩ = some (.slice (some ⟨bU, 0, none⟩) m m) := R2.cell rfl
    have c4 : W1.cell? ⟨b, 4, none⟩ = some (.slice (some ⟨bV, 0, none⟩) m m) := R2.cell rfl
    have hwf : EWf L H m := fun j hj => by
      have := hE.ei j hj
      have := hE.k24
      exact ⟨WalkArith.wf_i64 (by omega), WalkArith.wf_i64 (by omega)⟩
    rcases hcase with ⟨hxy, hL, hH⟩ | ⟨hxy, hL, hH⟩
    · have hlk := look_edge R2.nos hwf he (fun q hq h1 h2 => hE.once hq he h1 h2) hL hH
      have hxy' : (x : Int) < (y : Int) := by omega
      have u0 := R2.up.cell he
      have z0 := R2.up.frozen e
      have HX := hE.up hx hy he ex ey hxy hL hH
      have R3 : Hid (Room w0 k P eo m ecap L H b g rcap bm bU bV (wzU F T G P L H t) (wzD F T G P L H t) W1) := R2
      clear R2
      go_wp2
      refine wp_region_last_lit 16 (by kernel_rfl) (by rfl) (by rfl) (by rfl) (by kernel_rfl) (by kernel_rfl) (by kernel_rfl) (by rfl) ?_
      simp only [List.take_succ_cons, List.take_zero, List.cons_append, List.nil_append]
      repeat (go_big_quiet_step (fail))
      refine wpQuiet_nil ?_
      intro w7 hw7
      obtain ⟨nq, rfl⟩ := hw7
      have hd2 := below_drewN (Below.refl W1.heap.size W1) nq
      have R4 := R3.out.next hd2
      have HR4 := HR2.out.below hd2 nl
      have hs8 := hd2.size
      have HT7 : Hid (Turns w (W1.drewN nq) [bU, bV]) := HT1.out.trans (Turns.of_below hd2 nl _)
      clear R3 HR2 hd2 hlk u0 z0 c2 c3 c4 g2
      generalize W1.drewN nq = W7 at R4 HR4 hs8 HT7 ⊢
      have u0 := R4.up.cell he
      have z0 := R4.up.frozen e
      have hgr := gr_setCell W7 bU e (.int .i64 (G t))
      have R5 := (R4.turnU hgr ((R4.up.set e (G t)).congr HX.1)).congr (U' := wzU F T G P L H (t + 1)) (V' := wzD F T G P L H (t + 1)) (fun _ _ => rfl) (fun j hj => (HX.2 j hj).symm)
      have HR5 := HR4.turn hgr HAO.out.1
      have hs7 := hgr.size
      have HT8 := HT7.out.trans ((Turns.of_grown hgr).more (by simp))
      clear R4 HR4 hgr HX
      go_simp
      go_wp2
      go_roundw
      case rel => exact ⟨t + 1, by omega, by go_num, R5, HR5, by omega, HT8⟩
      case measure => simp [intOf]; omega
    · have hlk := look_edge R2.nos hwf he (fun q hq h1 h2 => hE.once hq he h1 h2) hL hH
      have hxy' : ¬ (x : Int) < (y : Int) := by omega
      have u0 := R2.dn.cell he
      have z0 := R2.dn.frozen e
      have HX := hE.dn hx hy he ex ey hxy hL hH
      have R3 : Hid (Room w0 k P eo m ecap L H b g rcap bm bU bV (wzU F T G P L H t) (wzD F T G P L H t) W1) := R2
      clear R2
      go_wp2
      refine wp_region_last_lit 16 (by kernel_rfl) (by rfl) (by rfl) (by rfl) (by kernel_rfl) (by kernel_rfl) (by kernel_rfl) (by rfl) ?_
      simp only [List.take_succ_cons, List.take_zero, List.cons_append, List.nil_append]
      repeat (go_big_quiet_step (fail))
      refine wpQuiet_nil ?_
      intro w7 hw7
      obtain ⟨nq, rfl⟩ := hw7
      have hd2 := below_drewN (Below.refl W1.heap.size W1) nq
      have R4 := R3.out.next hd2
      have HR4 := HR2.out.below hd2 nl
      have hs8 := hd2.size
      have HT7 : Hid (Turns w (W1.drewN nq) [bU, bV]) := HT1.out.trans (Turns.of_below hd2 nl _)
      clear R3 HR2 hd2 hlk u0 z0 c2 c3 c4 g2
      generalize W1.drewN nq = W7 at R4 HR4 hs8 HT7 ⊢
      have u0 := R4.dn.cell he
      have z0 := R4.dn.frozen e
      have hgr := gr_setCell W7 bV e (.int .i64 (G t))
      have R5 := (R4.turnD hgr ((R4.dn.set e (G t)).congr HX.1)).congr (U' := wzU F T G P L H (t + 1)) (V' := wzD F T G P L H (t + 1)) (fun j hj => (HX.2 j hj).symm) (fun _ _ => rfl)
      have HR5 := HR4.turn hgr HAO.out.2
      have hs7 := hgr.size
      have HT8 := HT7.out.trans ((Turns.of_grown hgr).more (by simp))
      clear R4 HR4 hgr HX
      go_simp
      go_wp2
      go_roundw
      case rel => exact ⟨t + 1, by omega, by go_num, R5, HR5, by omega, HT8⟩
      case measure => simp [intOf]; omega
end
section
open Go.RowKit
attribute [local go_sem ↓] Go.wp_at_zero Go.wp_at_succ
set_option maxHeartbeats 2000000 in
theorem upBelow_any (uo : Option Addr) (u ucap : Nat) (U : Nat → Int) (vo : Option Addr) (v vcap : Nat) (V : Nat → Int) (t : Tr) (h1 : t.1 < v) (h2 : t.2.1 < u) (hU : InF u U) (hV : InF v V) (hu : u ≤ 1048576) (hv : v ≤ 1048576) (w : World) (rU : IRow w uo u U) (rV : IRow w vo v V) :
    Calls Tryz.prog 145 #[.agg #[.slice uo u ucap, .slice vo v vcap], .agg #[.int .i64 (t.1 : Int), .int .i64 (t.2.1 : Int), .int .i64 (t.2.2 : Int)]] w fun e w' => e = .returned (.int .i64 (upT U V t)) ∧ Below w.heap.size w w' := by
  obtain ⟨i, k, e⟩ := t
  simp only at h1 h2
  obtain ⟨b, o, hao, c0⟩ := rU k h2
  subst hao
  obtain ⟨b', o', hao', d0⟩ := rV i h1
  subst hao'
  have hB := ((Below.refl w.heap.size w).alloc nl (.cells #[.slice (some ⟨b, o, none⟩) u ucap, .slice (some ⟨b', o', none⟩) v vcap] 179)).alloc (by simp) (.cells #[.int .i64 (i : Int), .int .i64 (k : Int), .int .i64 (e : Int)] 196)
  replace c0 := keep_cell hB nl c0
  replace d0 := keep_cell hB nl d0
  have hk1 : (0 : Int) ≤ (k : Int) := by omega
  have hk2 : (k : Int) < (u : Int) := by omega
  have hi1 : (0 : Int) ≤ (i : Int) := by omega
  have hi2 : (i : Int) < (v : Int) := by omega
  obtain ⟨uk0, uk1⟩ := hU k h2
  obtain ⟨vi0, vi1⟩ := hV i h1
  go_enter Tryz.func145, Tryz.ntmps145
  go_wp2
  go_quiet (first | (go_at_call 67; refine Calls.quiet_of_same (plus_any _ _ (by assumption) (by assumption) (by assumption) (by assumption) _)))
  go_wp2
  go_ret
  exact ⟨rfl, below_drewN hB _⟩
set_option maxHeartbeats 2000000 in
theorem downBelow_any (uo : Option Addr) (u ucap : Nat) (U : Nat → Int) (vo : Option Addr) (v vcap : Nat) (V : Nat → Int) (t : Tr) (h1 : t.2.1 < v) (h2 : t.1 < u) (hU : InF u U) (hV : InF v V) (hu : u ≤ 1048576) (hv : v ≤ 1048576) (w : World) (rU : IRow w uo u U) (rV : IRow w vo v V) :
    Calls Tryz.prog 146 #[.agg #[.slice uo u ucap, .slice vo v vcap], .agg #[.int .i64 (t.1 : Int), .int .i64 (t.2.1 : Int), .int .i64 (t.2.2 : Int)]] w fun e w' => e = .returned (.int .i64 (dnT U V t)) ∧ Below w.heap.size w w' := by
  obtain ⟨k, i, e⟩ := t
  simp only at h1 h2
  obtain ⟨b, o, hao, c0⟩ := rU k h2
  subst hao
  obtain ⟨b', o', hao', d0⟩ := rV i h1
  subst hao'
  have hB := ((Below.refl w.heap.size w).alloc nl (.cells #[.slice (some ⟨b, o, none⟩) u ucap, .slice (some ⟨b', o', none⟩) v vcap] 179)).alloc (by simp) (.cells #[.int .i64 (k : Int), .int .i64 (i : Int), .int .i64 (e : Int)] 196)
  replace c0 := keep_cell hB nl c0
  replace d0 := keep_cell hB nl d0
  have hk1 : (0 : Int) ≤ (k : Int) := by omega
  have hk2 : (k : Int) < (u : Int) := by omega
  have hi1 : (0 : Int) ≤ (i : Int) := by omega
  have hi2 : (i : Int) < (v : Int) := by omega
  obtain ⟨uk0, uk1⟩ := hU k h2
  obtain ⟨vi0, vi1⟩ := hV i h1
  go_enter Tryz.func146, Tryz.ntmps146
  go_wp2
  go_quiet (first | (go_at_call 67; refine Calls.quiet_of_same (plus_any _ _ (by assumption) (by assumption) (by assumption) (by assumption) _)))
  go_wp2
  go_ret
  exact ⟨rfl, below_drewN hB _⟩
end
section
open Go.RowKit Go.Maps
attribute [local go_sem ↓] Go.wp_at_zero Go.wp_at_succ
theorem edge_wf {l h p : Int} (he : edgeB l h p = true) (hp : p ≤ 24) : (Lit.int .i64 l).wf = true ∧ (Lit.int .i64 h).wf = true := by
  have := edgeB_in he
  exact ⟨WalkArith.wf_i64 (by omega), WalkArith.wf_i64 (by omega)⟩
end
section
open Go.RowKit Go.Shelf Go.Maps
attribute [local go_sem] Oper.semAt_some
theorem triangles_any (eo : Option Addr) (m ecap : Nat) (w : World) :
    Calls Tryz.prog 144 #[.slice eo m ecap] w fun e w' => e = .returned (.func (.func 150) #[] #[.pointer (some ⟨w.heap.size, 0, none⟩)]) ∧ w' = w.alloc (.cells #[.slice eo m ecap] 28) := by
  go_enter Tryz.func144, Tryz.ntmps144
  go_wp2
  go_ret
  exact ⟨rfl, rfl⟩
structure KeepsOwn (B : Nat) (W W' : World) : Prop where
  size : W.heap.size ≤ W'.heap.size
  same : ∀ (k : Nat) (o : Obj), B ≤ k → W.heap[k]? = some o → (o.isCells = true ∨ o.isWalk = true) → W'.heap[k]? = some o
theorem KeepsOwn.trans {B : Nat} {X Y Z : World} (h : KeepsOwn B X Y) (k : KeepsOwn B Y Z) : KeepsOwn B X Z := ⟨Nat.le_trans h.size k.size, fun i o hB hi ho => k.same i o hB (h.same i o hB hi ho) ho⟩
theorem KeepsOwn.putObj {B : Nat} {W : World} {l : Nat} {o o' : Obj} (hl : W.heap[l]? = some o) (h1 : o.isCells = false) (h2 : o.isWalk = false) : KeepsOwn B W (W.putObj l o') :=
  ⟨by simp [World.putObj], fun k x _ hk hx => by
    by_cases e : k = l
    · subst e
      rw [hl] at hk
      cases hk
      rw [h1, h2] at hx
      simp at hx
    · rw [World.putObj_heap_other e]; exact hk⟩
theorem KeepsOwn.cell {B b o : Nat} {W W' : World} {v : Value} (h : KeepsOwn B W W') (hb : B ≤ b) (hc : W.cell? ⟨b, o, none⟩ = some v) (hk : ∃ cur t fr, W.heap[b]? = some (.cells cur t fr)) : W'.cell? ⟨b, o, none⟩ = some v := by
  obtain ⟨cur, t, fr, hk⟩ := hk
  have := h.same b _ hb hk (.inl rfl)
  rw [World.cell?_of_block (show W'.heap[b]? = W.heap[b]? by rw [this, hk])]
  exact hc
theorem owns_walk {P : Program} {k : TypeId} {R : Value → Option (DataW Unit × List MemPlace)} {b n : Nat} {D : DataW Unit} {w : World} {o : Obj} (h : w.ownsMap P k R b n D) (ho : w.heap[b]? = some o) : o.isWalk = true := by
  unfold World.ownsMap at h
  rw [ho] at h
  cases o <;> simp_all [Obj.isWalk]
def trv (t : Tr) : Value := .agg #[.int .i64 (t.1 : Int), .int .i64 (t.2.1 : Int), .int .i64 (t.2.2 : Int)]
set_option maxRecDepth 100000 in
set_option maxHeartbeats 4000000 in
theorem tri_core (n : Nat) (hn : 1 ≤ n) (l bE : Nat) (eo : Option Addr) (m ecap : Nat) (L H : Nat → Int) (p : Int) (hm : m ≤ 1048576) (hp : p ≤ 24) (he : edB p L H m = true) (hc : ChdTo m L H m) (J Jx : List Tr → World → Prop) (W : World) (hJ : AbidesFrom W.heap.size J)
    (hRd : ∀ pre W1, J pre W1 → W1.cell? ⟨bE, 0, none⟩ = some (.slice eo m ecap) ∧ ERow W1 eo m L H)
    (hY : ∀ pre t W1, TOk m L H t → pre.length < m * m → J pre W1 → YieldAt Fence.wide (n - 1) Tryz.prog l #[trv t] W1 fun e W' => (e = .returned (.bool true) ∧ J (pre ++ [t]) W' ∧ KeepsOwn W.heap.size W1 W') ∨ (e = .returned (.bool false) ∧ Jx (pre ++ [t]) W'))
    (h0 : J [] W) :
    CallsIn Fence.wide n Tryz.prog 150 #[.func (.yield l) #[] #[], .pointer (some ⟨bE, 0, none⟩)] W fun e W' => (∃ v, e = .returned v) ∧ (J (allT m L H m) W' ∨ ∃ pre, Jx pre W') := by
  obtain ⟨r1, r2⟩ := hRd _ _ h0
  have hwf : EWf L H m := fun k hk => edge_wf (edB_at m he k hk) hp
  have HW : Hid (EWf L H m) := hwf
  clear hwf
  refine callsIn_of_wp Tryz.func150 rfl trivial ?_ rfl
  simp only [Tryz.ntmps150, List.size_toArray, List.length_cons, List.length_nil, Nat.reduceAdd, Nat.reduceSub, Array.replicate_succ, Array.replicate_zero, List.push_toArray, List.append_toArray, List.nil_append, List.cons_append]
  gi_wp2_with fail
  refine ⟨trivial, ?_⟩
  refine (callsIn_wide.2 (edgeNumbers_any eo m ecap L H hm HW.out _ r2)).mono ?_
  rintro e w1 ⟨rfl, hm1, hb1⟩
  have hJ1 : J [] w1 := hJ _ _ _ none h0 ⟨hb1.os, hb1.tape, hb1.output, hb1.size, fun k hk _ => hb1.block k hk⟩ (fun r e => by cases e)
  obtain ⟨s1, s2⟩ := hRd _ _ hJ1
  clear r1 r2 h0 hb1
  gi_wp2
  clear s1 s2
  gi_loopw [12] (fun x wr => ∃ i : Nat, i ≤ m ∧ x = .int .i64 i ∧ J (allT m L H i) wr ∧ wr.ownsMap Tryz.prog 94 (plainElem Tryz.prog 3) W.heap.size m (enums L H m)) (fun x _ => m - (intOf x).toNat)
  case atStart => exact ⟨0, Nat.zero_le _, rfl, hJ1, hm1⟩
  case round =>
    clear hJ1 hm1
    obtain ⟨i, hi, rfl, hJi, hmi⟩ := hrel
    by_cases hlt : i < m
    rotate_left
    · have him : i = m := by omega
      subst him
      gi_wp2
      go_end0
      exact ⟨⟨_, rfl⟩, .inl hJi⟩
    obtain ⟨s1, s2⟩ := hRd _ _ hJi
    obtain ⟨b, o, hao, c0, c1⟩ := s2 i hlt
    subst hao
    have hi1 : (0 : Int) ≤ (i : Int) := by omega
    have hi2 : (i : Int) < (m : Int) := by omega
    have hml := hmi.lt
    have hm' := hmi.alloc (.cells #[.int .i64 (L i), .int .i64 (H i)] 94)
    have hJ' : J (allT m L H i) (wr.alloc (.cells #[.int .i64 (L i), .int .i64 (H i)] 94)) := hJ _ _ _ none hJi (World.grownBy_alloc wr _ none) (fun r e => by cases e)
    have hLb : (wr.alloc (.cells #[.int .i64 (L i), .int .i64 (H i)] 94)).heap[wr.heap.size]? = some (.cells #[.int .i64 (L i), .int .i64 (H i)] 94) := World.alloc_heap_new wr _
    clear hJi hmi s1 s2
    obtain ⟨W0, hW0⟩ : ∃ W0, W0 = wr := ⟨_, rfl⟩
    subst hW0
    gi_wp2
    clear c0 c1
    gi_loopw [6] (fun x wq => ∃ (kk : Nat) (pre : List Tr), i < kk ∧ kk ≤ m ∧ x = .int .i64 kk ∧ pre ++ rowT m L H i (m - kk) kk = allT m L H (i + 1) ∧ J pre wq ∧ wq.ownsMap Tryz.prog 94 (plainElem Tryz.prog 3) W.heap.size m (enums L H m) ∧ wq.heap[W0.heap.size]? = some (.cells #[.int .i64 (L i), .int .i64 (H i)] 94)) (fun x _ => m - (intOf x).toNat)
    case atStart => exact ⟨i + 1, allT m L H i, by omega, by omega, by go_num, rfl, hJ', hm', hLb⟩
    case round =>
      clear hJ' hm' hLb
      obtain ⟨kk, pre, hik, hkm, rfl, hall, hJk, hmk, hLb⟩ := hrel
      obtain ⟨r1, r2⟩ := hRd _ _ hJk
      have f0 : wr.cell? ⟨W0.heap.size, 0, none⟩ = some (.int .i64 (L i)) := by simp [World.cell?, hLb]
      have f1 : wr.cell? ⟨W0.heap.size, 1, none⟩ = some (.int .i64 (H i)) := by simp [World.cell?, hLb]
      have HALL : Hid (pre ++ rowT m L H i (m - kk) kk = allT m L H (i + 1)) := hall
      clear hall
      by_cases hkn : kk < m
      rotate_left
      · have HE : Hid (pre = allT m L H (i + 1)) := by
          have := HALL.out
          rw [rowT_stop (by omega), List.append_nil] at this
          exact this
        have hd : decide ((kk : Int) < (m : Int)) = false := by simp; omega
        gi_wp2
        refine wpIn_region_quiet_lit rfl (by kernel_rfl) (by kernel_rfl) ?_
        repeat (first | gi_big_quiet_step (fail) | (refine BigFrame.wpQuietIn_skip (fun _ _ _ _ => trivial) rfl ?_; simp only [go_sem, Act.put, List.setIfInBounds_toArray, List.set_cons_succ, List.set_cons_zero]))
        refine wpQuietIn_nil ?_
        intro _ hw'
        obtain ⟨nq, hw''⟩ := hw'
        subst hw''
        gi_wp2
        go_roundw
        case rel => exact ⟨i + 1, by omega, by go_num, by rw [← HE.out]; exact hJ _ _ _ none hJk ⟨rfl, rfl, rfl, Nat.le_refl _, fun _ _ _ => rfl⟩ (fun r e => by cases e), ownsMap_block hmk rfl⟩
        case measure => simp [intOf]; omega
      obtain ⟨b', o', hao', d0, d1⟩ := r2 kk hkn
      simp only [Option.some.injEq, Addr.mk.injEq, and_true] at hao'
      obtain ⟨rfl, rfl⟩ := hao'
      have hd : decide ((kk : Int) < (m : Int)) = true := by simp; omega
      have hk1 : (0 : Int) ≤ (kk : Int) := by omega
      have hk2 : (kk : Int) < (m : Int) := by omega
      by_cases hL : L kk = L i
      rotate_left
      · have HE : Hid (pre = allT m L H (i + 1)) := by
          have := HALL.out
          rw [rowT_stop (fun h => hL h.2), List.append_nil] at this
          exact this
        have hLd : decide (L kk = L i) = false := by simpa using hL
        gi_wp2
        refine wpIn_region_quiet_lit rfl (by kernel_rfl) (by kernel_rfl) ?_
        repeat (first | gi_big_quiet_step (fail) | (refine BigFrame.wpQuietIn_skip (fun _ _ _ _ => trivial) rfl ?_; simp only [go_sem, Act.put, List.setIfInBounds_toArray, List.set_cons_succ, List.set_cons_zero]))
        refine wpQuietIn_nil ?_
        intro _ hw'
        obtain ⟨nq, hw''⟩ := hw'
        subst hw''
        gi_wp2
        go_roundw
        case rel => exact ⟨i + 1, by omega, by go_num, by rw [← HE.out]; exact hJ _ _ _ none hJk ⟨rfl, rfl, rfl, Nat.le_refl _, fun _ _ _ => rfl⟩ (fun r e => by cases e), ownsMap_block hmk rfl⟩
        case measure => simp [intOf]; omega
      have HT : Hid (TOk m L H (i, kk, fnd L H (H i) (H kk) m)) := tok_of he hc hik hkn hL
      have HG : Hid (rowT m L H i (m - kk) kk = (i, kk, fnd L H (H i) (H kk) m) :: rowT m L H i (m - (kk + 1)) (kk + 1)) := rowT_go hkn hL
      rw [hL] at d0
      clear hL
      obtain ⟨E, hE⟩ : ∃ E, fnd L H (H i) (H kk) m = E := ⟨_, rfl⟩
      rw [hE] at HT HG
      clear hE
      gi_wp2
      refine wpIn_region_quiet_lit rfl (by kernel_rfl) (by kernel_rfl) ?_
      repeat (first | gi_big_quiet_step (fail) | (refine BigFrame.wpQuietIn_skip (fun _ _ _ _ => trivial) rfl ?_; simp only [go_sem, Act.put, List.setIfInBounds_toArray, List.set_cons_succ, List.set_cons_zero]))
      refine wpQuietIn_nil ?_
      intro _ hw'
      obtain ⟨nq, hw''⟩ := hw'
      subst hw''
      have hJ5 : J pre (wr.drewN nq) := hJ _ _ _ none hJk ⟨rfl, rfl, rfl, Nat.le_refl _, fun _ _ _ => rfl⟩ (fun r e => by cases e)
      have hm5 : (wr.drewN nq).ownsMap Tryz.prog 94 (plainElem Tryz.prog 3) W.heap.size m (enums L H m) := ownsMap_block hmk rfl
      have hL5 : (wr.drewN nq).heap[W0.heap.size]? = some (.cells #[.int .i64 (L i), .int .i64 (H i)] 94) := hLb
      clear r1 r2 f0 f1 d0 d1 hJk hmk hLb
      generalize wr.drewN nq = W5 at hJ5 hm5 hL5 ⊢
      obtain ⟨r1, r2⟩ := hRd _ _ hJ5
      have f0 : W5.cell? ⟨W0.heap.size, 0, none⟩ = some (.int .i64 (L i)) := by simp [World.cell?, hL5]
      have f1 : W5.cell? ⟨W0.heap.size, 1, none⟩ = some (.int .i64 (H i)) := by simp [World.cell?, hL5]
      obtain ⟨b', o', hao', d0, d1⟩ := r2 kk hkn
      simp only [Option.some.injEq, Addr.mk.injEq, and_true] at hao'
      obtain ⟨rfl, rfl⟩ := hao'
      have hlk : ∀ q, (Instr.lookup 188 (.map (some W.heap.size)) (.agg #[.int .i64 (H i), .int .i64 (H kk)]) false).run Tryz.prog (W5.drewN q) = .ok (.int .i64 (E : Int)) (W5.drewN q) := fun q => by
        have hkey := key_edge (H i) (H kk) (HW.out i hlt).2 (HW.out kk hkn).2
        obtain ⟨c, hrun, hat, _⟩ := (ownsMap_block (w' := W5.drewN q) hm5 rfl).lookup_int Tryz.keyLawE Tryz.underlying188 Tryz.underlying3 (Tryz.mapZeroE _) hkey
        rcases enums_look L H (H i) (H kk) (HW.out i hlt).2 (HW.out kk hkn).2 m HW.out with ⟨_, h2⟩ | ⟨x, hx, h1, h2, _, h4⟩
        · exact absurd ⟨HT.out.2.2.2.2.2.1, HT.out.2.2.2.2.2.2⟩ (h2 E HT.out.2.2.1)
        · have hxE : x = E := ed_once he hx HT.out.2.2.1 (by rw [h1]; exact HT.out.2.2.2.2.2.1.symm) (by rw [h2]; exact HT.out.2.2.2.2.2.2.symm)
          rw [h4, hxE] at hat
          simp only [DataW.lit.injEq, Lit.int.injEq, true_and] at hat
          rw [hrun, hat]
      gi_wp2
      refine wpIn_region_quiet_lit rfl (by kernel_rfl) (by kernel_rfl) ?_
      repeat (first | gi_big_quiet_step (fail) | (refine BigFrame.wpQuietIn_skip (fun _ _ _ _ => trivial) rfl ?_; simp only [go_sem, Act.put, List.setIfInBounds_toArray, List.set_cons_succ, List.set_cons_zero]))
      refine wpQuietIn_nil ?_
      intro _ hw'
      obtain ⟨nq, hw''⟩ := hw'
      subst hw''
      have hJ6 : J pre (W5.drewN nq) := hJ _ _ _ none hJ5 ⟨rfl, rfl, rfl, Nat.le_refl _, fun _ _ _ => rfl⟩ (fun r e => by cases e)
      have hm6 : (W5.drewN nq).ownsMap Tryz.prog 94 (plainElem Tryz.prog 3) W.heap.size m (enums L H m) := ownsMap_block hm5 rfl
      have hL6 : (W5.drewN nq).heap[W0.heap.size]? = some (.cells #[.int .i64 (L i), .int .i64 (H i)] 94) := hL5
      clear r1 r2 f0 f1 d0 d1 hJ5 hm5 hL5 hlk
      generalize W5.drewN nq = W6 at hJ6 hm6 hL6 ⊢
      have hlen : pre.length < m * m := by
        have h1 := congrArg List.length HALL.out
        rw [HG.out] at h1
        have h2 := allT_len (n := m) (L := L) (H := H) (i + 1)
        have h3 : (i + 1) * m ≤ m * m := Nat.mul_le_mul_right m (by omega)
        simp only [List.length_append, List.length_cons] at h1
        omega
      obtain ⟨fn, tmps, assign, body, hy, hR⟩ := hY pre (i, kk, E) W6 HT.out hlen hJ6
      have hR' := hR.mono (R' := fun e W' => ∃ b : Bool, e = .returned (.bool b) ∧ ((b = true ∧ J (pre ++ [(i, kk, E)]) W' ∧ KeepsOwn W.heap.size W6 W') ∨ (b = false ∧ Jx (pre ++ [(i, kk, E)]) W'))) (fun e W' h => by
        rcases h with ⟨h1, h2⟩ | ⟨h1, h2⟩
        · exact ⟨true, h1, .inl ⟨rfl, h2⟩⟩
        · exact ⟨false, h1, .inr ⟨rfl, h2⟩⟩)
      clear hR
      simp only [trv] at hy
      gi_wp2
      refine hR'.mono ?_
      rintro e W7 ⟨bb, rfl, hor⟩
      rcases hor with ⟨rfl, hJ7, hK7⟩ | ⟨rfl, hJx7⟩
      · have hm7 : W7.ownsMap Tryz.prog 94 (plainElem Tryz.prog 3) W.heap.size m (enums L H m) := by
          refine ownsMap_block hm6 ?_
          obtain ⟨o6, ho6⟩ : ∃ o6, W6.heap[W.heap.size]? = some o6 := ⟨_, Array.getElem?_eq_getElem hm6.lt⟩
          rw [ho6]
          exact hK7.same _ _ nl ho6 (.inr (owns_walk hm6 ho6))
        have hL7 := hK7.same _ _ (by omega) hL6 (.inl rfl)
        gi_wp2
        go_roundw
        case rel => exact ⟨kk + 1, pre ++ [(i, kk, E)], by omega, by omega, by go_num, by rw [← HALL.out, HG.out]; simp, hJ7, hm7, hL7⟩
        case measure => simp [intOf]; omega
      · gi_wp2
        refine bodyPost_ret (results_none rfl _ _ _) rfl ?_
        exact ⟨⟨_, rfl⟩, .inr ⟨_, hJx7⟩⟩
end
section
open Go.RowKit Go.Shelf Go.Maps
abbrev TrO (m : Nat) (L H : Nat → Int) := { t : Tr // TOk m L H t }
def TRd (bE : Nat) (eo : Option Addr) (m ecap : Nat) (L H : Nat → Int) (W : World) : Prop := W.cell? ⟨bE, 0, none⟩ = some (.slice eo m ecap) ∧ ERow W eo m L H
theorem TRd.grown {bE : Nat} {eo : Option Addr} {m ecap : Nat} {L H : Nat → Int} {W W' : World} {row : Option Nat} (h : TRd bE eo m ecap L H W) (hg : W.grownBy W' row) (hr : ∀ r, row = some r → ∃ o : Obj, W.heap[r]? = some o ∧ o.isCells = false) : TRd bE eo m ecap L H W' :=
  ⟨cell_kept h.1 hg hr, fun k hk => by
    obtain ⟨b, o, e, c0, c1⟩ := h.2 k hk
    exact ⟨b, o, e, cell_kept c0 hg hr, cell_kept c1 hg hr⟩⟩
theorem TRd.putObj {bE : Nat} {eo : Option Addr} {m ecap : Nat} {L H : Nat → Int} {W : World} {l : Nat} {o o' : Obj} (h : TRd bE eo m ecap L H W) (hl : W.heap[l]? = some o) (ho : o.isCells = false) : TRd bE eo m ecap L H (W.putObj l o') :=
  h.grown (grownBy_putObj' W l o') (fun r e => by cases e; exact ⟨o, hl, ho⟩)
def TKp (B bE : Nat) (eo : Option Addr) (m ecap : Nat) (L H : Nat → Int) (W W' : World) : Prop := KeepsOwn B W W' ∧ (TRd bE eo m ecap L H W → TRd bE eo m ecap L H W')
theorem KeepsOwn.less {B B' : Nat} {W W' : World} (h : KeepsOwn B W W') (hB : B ≤ B') : KeepsOwn B' W W' := ⟨h.size, fun k o hk => h.same k o (by omega)⟩
theorem tri_stops (n : Nat) (hn : 1 ≤ n) (bE : Nat) (eo : Option Addr) (m ecap : Nat) (L H : Nat → Int) (p : Int) (hm : m ≤ 1048576) (hp : p ≤ 24) (he : edB p L H m = true) (hc : ChdTo m L H m) (w : World) (hR : TRd bE eo m ecap L H w) :
    SeqStopsK Fence.wide n Tryz.prog 150 #[.pointer (some ⟨bE, 0, none⟩)] (fun x : TrO m L H => #[trv x.1]) (TKp w.heap.size bE eo m ecap L H) (fun xs => xs.map (·.1) = allT m L H m) (fun _ => True) (m * m) w := fun l J Jx W hW hJ hJx hY h0 => by
  have hRW : TRd bE eo m ecap L H W := hR.grown (row := none) ⟨hW.os, hW.tape, hW.output, hW.size, fun k hk _ => hW.block k hk⟩ (fun r e => by cases e)
  refine (tri_core n hn l bE eo m ecap L H p hm hp he hc (fun pre W => (∃ xs : List (TrO m L H), xs.map (·.1) = pre ∧ J xs W) ∧ TRd bE eo m ecap L H W) (fun pre W => ∃ xs : List (TrO m L H), Jx xs W) W ?_ (fun _ _ h => h.2) ?_ ⟨⟨[], rfl, h0⟩, hRW⟩).mono ?_
  · rintro s A B row ⟨⟨xs, e, h1⟩, h2⟩ hg hr
    exact ⟨⟨xs, e, hJ xs A B row h1 hg hr⟩, h2.grown hg (fun r e => by obtain ⟨_, o, ho, hw⟩ := hr r e; exact ⟨o, ho, Obj.not_cells_of_walk hw⟩)⟩
  · rintro pre t W1 ht hlen ⟨⟨xs, rfl, h1⟩, h2⟩
    obtain ⟨fn, tmps, assign, body, hy, hR1⟩ := hY xs ⟨t, ht⟩ W1 h1 (by simpa using hlen)
    refine ⟨fn, tmps, assign, body, hy, hR1.mono ?_⟩
    rintro e W' (⟨h3, h4, h5, h6⟩ | ⟨h3, h4⟩)
    · exact .inl ⟨h3, ⟨⟨xs ++ [⟨t, ht⟩], by simp, h4⟩, h6 h2⟩, h5.less hW.size⟩
    · exact .inr ⟨h3, _, h4⟩
  · rintro e W' ⟨hv, (⟨⟨xs, e, h1⟩, _⟩ | ⟨pre, xs, h1⟩)⟩
    · exact ⟨hv, .inl ⟨xs, e, h1⟩⟩
    · exact ⟨hv, .inr ⟨xs, trivial, h1⟩⟩
end
section
open Go Go.RowKit
section
variable {F : Fence} {n : Nat} {P : Program}
theorem range_boxed {α : Type} {g : Operand} {ps : Array Tmp} {assign body : Code} {Q : Exit → Act → World → Prop} {a : Act} {w : World}
    (hro : F.round = none) (h1 : 1 ≤ n) {gf : Nat} {lb : Array Value} (hg : a.eval g = .func (.func gf) #[] lb) (hFg : F.fn gf) (eg : ∀ args w, (callFunc gf args).run P w = .ok (.enter gf args) w)
    {encs : α → Array Value} {Kp : World → World → Prop} {S Sp : List α → Prop} {N : Nat} {w0 : World} (hseq : SeqStopsK F (n - 1) P gf lb encs Kp S Sp N w0)
    (hKt : ∀ {A B C : World}, Kp A B → Kp B C → Kp A C) (hKb : ∀ (W : World) (l : Nat) (o o' : Obj), w.heap.size ≤ l → W.heap[l]? = some o → o.isCells = false → o.isWalk = false → Kp W (W.putObj l o')) (hKa : ∀ (W : World) (o : Obj), Kp W (W.alloc o)) (hb0 : Below w0.heap.size w0 w) (hps : ∀ x, (encs x).size = ps.size)
    (I : List α → World → Prop) (Ix : Code → List α → World → Prop) (hI : OwnFrom w.heap.size I) (hIx : ∀ c, OwnFrom w.heap.size (Ix c)) (hIs : ∀ pre W, I pre W → w.heap.size ≤ W.heap.size) (h0 : I [] w) (d : Nat) (cs : α → Array Value) (T : TypeId)
    (hassign : ∀ (l : Nat) (x : α) (W : World) (K : Act → World → Prop), K { tmps := ((ps.zip (encs x)).foldl (fun t (p, v) => t.setIfInBounds p v) a.tmps).setIfInBounds d (.pointer (some ⟨W.heap.size, 0, none⟩)), defers := [] } (W.alloc (.cells (cs x) T)) →
      assign.wpIn (F.inRound l) (n - 1 - 1) P (Exit.then K (fun _ _ _ => False)) { tmps := (ps.zip (encs x)).foldl (fun t (p, v) => t.setIfInBounds p v) a.tmps, defers := [] } W)
    (hbody : ∀ (l : Nat) (pre : List α) (x : α) (bT : Nat) (W : World), I pre W → w.heap.size ≤ bT → W.heap[bT]? = some (.cells (cs x) T) → body.wpIn (F.inRound l) (n - 1 - 1) P (ownPostG w.heap.size Kp I Ix (pre ++ [x]) W) { tmps := ((ps.zip (encs x)).foldl (fun t (p, v) => t.setIfInBounds p v) a.tmps).setIfInBounds d (.pointer (some ⟨bT, 0, none⟩)), defers := [] } W)
    (hdone : ∀ (D : Nat) (xs : List α) (W : World), w.heap.size ≤ D → S xs → I xs W → W.heap[D]? = some (.deferred (some [])) → Q .normal { a with defers := { target := .collected D, args := #[] } :: a.defers } W)
    (hstop : ∀ (D : Nat) (c : Code) (pre : List α) (W : World), w.heap.size ≤ D → Sp pre → Ix c pre W → W.heap[D]? = some (.deferred (some [])) → c.wpIn F n P Q { a with defers := { target := .collected D, args := #[] } :: a.defers } W) :
    (Code.rangeFunc g ps assign body).wpIn F n P Q a w := by
  refine wpIn_rangeFunc_ownH hro h1 hg hFg eg hseq (fun h k => hKt h k) hKb hb0 hps I Ix hI hIx h0
    (fun x a' W => ∃ bT, a' = { tmps := ((ps.zip (encs x)).foldl (fun t (p, v) => t.setIfInBounds p v) a.tmps).setIfInBounds d (.pointer (some ⟨bT, 0, none⟩)), defers := [] } ∧ w.heap.size ≤ bT ∧ W.heap[bT]? = some (.cells (cs x) T)) ?_ ?_ ?_ hdone hstop
  · rintro x a' _ W W' row ⟨bT, rfl, hb, hc⟩ hg hr
    refine ⟨bT, rfl, hb, ?_⟩
    rw [hg.block bT (Array.getElem?_eq_some_iff.1 hc).1 (fun e => ?_)]
    · exact hc
    · obtain ⟨_, o, ho, hn⟩ := hr bT e.symm
      rw [hc] at ho
      cases ho
      cases hn
  · intro l pre x W K hi hK
    exact hassign l x W K (hK _ _ ((KeepsOthers.alloc W _).from _) (hKa W _) (hI.alloc _ hi) ⟨_, rfl, hIs _ _ hi, World.alloc_heap_new W _⟩)
  · rintro l pre x a' W _ _ hi ⟨bT, rfl, hb, hc⟩ _
    exact hbody l pre x bT W hi hb hc
end
end
end Go.Proofs.YthmpliljffmmcaaGreatDoor
