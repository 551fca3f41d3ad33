/-
  The program's room, cleared and weighed.
-/
import Derived.Test.YtdgnlpafmkhdjagRoomP
import Derived.Test.YtdgnlpafmkhdjagPack2
set_option linter.unusedVariables false
set_option linter.unusedSimpArgs false
namespace Go.Proofs.Ytdgnlpafmkhdjag
open Go.RowKit Go.Deep Go.Joins Go.Maps
attribute [local go_sem ↓] Go.wp_at_zero Go.wp_at_succ

set_option maxHeartbeats 2000000 in
theorem farWhereNone_any (b m : Nat) (f : Nat → Int) (hm : m ≤ 1048576) (w : World) (h : IHas w b m f) :
    Calls Try.prog 102 #[.slice (some ⟨b, 0, none⟩) m m] w fun e w' => (∃ v, e = .returned v) ∧ IHas w' b m (fun j => if f j = 0 then 1000000000000 else f j) ∧ w.grownBy w' (some b) := by
  go_enter Try.func102, Try.ntmps102
  go_wp2_with fail
  go_loopw [6] (fun x wr => ∃ j : Nat, j ≤ m ∧ x = .int .i64 j ∧ IHas wr b m (fun q => if q < j then (if f q = 0 then 1000000000000 else f q) else f q) ∧ w.grownBy wr (some b)) (fun x _ => m - (intOf x).toNat)
  case atStart => exact ⟨0, Nat.zero_le _, rfl, h.congr (fun q _ => by simp), World.grownBy.refl _ _⟩
  case round =>
    obtain ⟨j, hj, rfl, hI, hg⟩ := hrel
    by_cases hlt : j < m
    rotate_left
    · have e : j = m := by omega
      subst e
      go_wp2
      go_end0
      exact ⟨⟨_, rfl⟩, hI.congr (fun q hq => by simp [hq]), hg⟩
    have hlt' : (j : Int) < (m : Int) := by omega
    have hj0 : (0 : Int) ≤ (j : Int) := by omega
    have c0 := hI.cell hlt
    have z0 := hI.frozen j
    simp only [Nat.lt_irrefl, if_false] at c0
    by_cases hf : f j = 0
    · have R := (hI.set j 1000000000000).congr (g := fun q => if q < j + 1 then (if f q = 0 then 1000000000000 else f q) else f q) (fun q hq => by
        by_cases e : q = j
        · subst e; simp [hf]
        · simp only [e, if_false]
          by_cases e2 : q < j
          · have e3 : q < j + 1 := by omega
            simp [e2, e3]
          · have e3 : ¬ q < j + 1 := by omega
            simp [e2, e3])
      have hg2 := hg.trans (gr_setCell wr b j (.int .i64 1000000000000))
      clear hI hg
      go_wp2
      go_roundw
      case rel => exact ⟨j + 1, by omega, by go_num, R, hg2⟩
      case measure => simp [intOf]; omega
    · have R := hI.congr (g := fun q => if q < j + 1 then (if f q = 0 then 1000000000000 else f q) else f q) (fun q hq => by
        by_cases e : q = j
        · subst e; simp [hf]
        · by_cases e2 : q < j
          · have e3 : q < j + 1 := by omega
            simp [e2, e3]
          · have e3 : ¬ q < j + 1 := by omega
            simp [e2, e3])
      clear hI
      go_wp2
      go_roundw
      case rel => exact ⟨j + 1, by omega, by go_num, R, hg⟩
      case measure => simp [intOf]; omega

theorem gr_setRow (w : World) (g : Nat) (cs : Array Value) : w.grownBy (w.setRow g cs) (some g) :=
  ⟨rfl, rfl, rfl, by rw [setRow_size]; exact Nat.le_refl _, fun k hk hne => setRow_other w g k cs (fun e => hne (by rw [e]))⟩
theorem run_clear_ints (w : World) (b m cap : Nat) (f : Nat → Int) (h : IHas w b m f) (ty : TypeId) :
    ∃ w', (Builtin.clear_ #[24] ty #[.slice (some ⟨b, 0, none⟩) m cap]).run Try.prog w = .ok (.tuple #[]) w' ∧ IHas w' b m (fun _ => 0) ∧ w.grownBy w' (some b) := by
  obtain ⟨cur, hh, hs, hc⟩ := h
  obtain ⟨i0, hi0, hz0, hz1, hz2⟩ := info_parts Try.infoInt
  match m, hs, hc with
  | 0, hs, hc => exact ⟨w, by simp [Builtin.clear_, Sem.run_bind, run_underlying Try.underlying24], ⟨cur, hh, hs, fun j hj => by omega⟩, World.grownBy.refl _ _⟩
  | m + 1, hs, hc =>
    have hz : (Builtin.zeroCells (Value.int .i64 0).cells (m + 1)).toList = List.replicate (m + 1) (.int .i64 0) := by
      have h1 : (Value.int .i64 0).cells = #[.int .i64 0] := rfl
      rw [h1]
      apply List.eq_replicate_iff.2
      refine ⟨by simp [Builtin.zeroCells], fun v hv => ?_⟩
      simp [Builtin.zeroCells] at hv
      obtain ⟨_, _, rfl⟩ := hv
      simp [Nat.mod_one]
    have hr := run_storeCells_at (P := Try.prog) b 0 2 (List.replicate (m + 1) (.int .i64 0)) 0 cur w hh (by simp; omega) (by intro v hv; rw [(List.mem_replicate.1 hv).2]; rfl)
    refine ⟨w.setRow b (cur.toList.take (0 + 0) ++ List.replicate (m + 1) (Value.int .i64 0) ++ cur.toList.drop (0 + 0 + (List.replicate (m + 1) (Value.int .i64 0)).length)).toArray, ?_, ?_, gr_setRow w b _⟩
    rotate_left
    · refine ⟨_, setRow_heap w b cur _ _ _ hh, ?_, fun j hj => ?_⟩
      · simp <;> omega
      · simp [List.getElem?_append, List.getElem?_replicate, hj]
    · have hzv : (zeroValue 2).run Try.prog w = .ok (.int .i64 0) w := by simp [zeroValue, typeInfo, hi0, hz0]
      simp [Builtin.clear_, Sem.run_bind, run_underlying Try.underlying24, hzv, hz] at hr ⊢
      rw [hr]
      rfl

theorem wpList_clear_ints {ops : Array Oper} {rest : List Oper} {o : Oper} {a : Act} {w : World} {Q : Exit → Act → World → Prop} (hgd : o.guard = none) (x : Operand)
    (ho : o.op = .call { callee := .builtin .clear, args := #[x], argTypes := #[24] }) (b m cap : Nat) (f : Nat → Int) (hx : a.eval x = .slice (some ⟨b, 0, none⟩) m cap) (h : IHas w b m f)
    (hK : ∀ w', IHas w' b m (fun _ => 0) → w.grownBy w' (some b) → wpList Try.prog ops Q rest (a.put o.dst (.tuple #[])) w') : wpList Try.prog ops Q (o :: rest) a w := by
  refine wpList_plain hgd fun K hK' => ?_
  obtain ⟨w', hrun, hI, hg⟩ := run_clear_ints w b m cap f h o.type
  unfold Oper.wp
  simp [execOp, ho, resolve, invoke, builtin, hx, hrun, Result.andThen]
  exact hK' _ _ (hK w' hI hg)
theorem Row.turn {W W' : World} {ao : Option Addr} {n : Nat} {F T G : Nat → Int} {c : Nat} (h : Row W ao n F T G) (hg : W.grownBy W' (some c)) (hne : 0 < n → ∀ a, ao = some a → a.block ≠ c) : Row W' ao n F T G := fun k hk => by
  obtain ⟨b, o, e, c0, c1, c2⟩ := h k hk
  have hb : b ≠ c := hne (by omega) _ e
  have hl := lt_of_cell c0
  have hbl := hg.block b hl (by simp; exact hb)
  exact ⟨b, o, e, by simpa [World.cell?, hbl] using c0, by simpa [World.cell?, hbl] using c1, by simpa [World.cell?, hbl] using c2⟩
theorem cell_turn {W W' : World} {b o c : Nat} {v : Value} (h : W.cell? ⟨b, o, none⟩ = some v) (hg : W.grownBy W' (some c)) (hne : b ≠ c) : W'.cell? ⟨b, o, none⟩ = some v := by
  have hbl := hg.block b (lt_of_cell h) (by simp; exact hne)
  simpa [World.cell?, hbl] using h

/-- A look-up of an edge that is there. -/
theorem look_edge {W : World} {bm m : Nat} {L H : Nat → Int} (h : OMap W bm m L H) (hw : EWf L H m) {e : Nat} (he : e < m) (hu : ∀ q, q < m → L q = L e → H q = H e → q = e) {a c : Int} (ha : L e = a) (hc : H e = c) :
    ∀ q, (Instr.lookup 69 (.map (some bm)) (.agg #[.int .i64 a, .int .i64 c]) false).run Try.prog (W.drewN q) = .ok (.int .i64 (e : Int)) (W.drewN q) := fun q => by
  subst ha
  subst hc
  have hkey := key_edge (L e) (H e) (hw e he).1 (hw e he).2
  obtain ⟨c, hrun, hat, _⟩ := (ownsMap_block (w' := W.drewN q) h rfl).lookup_int Try.keyLawE Try.underlying69 Try.underlying3 (Try.mapZeroE _) hkey
  rcases enums_look L H (L e) (H e) (hw e he).1 (hw e he).2 m hw with ⟨_, h2⟩ | ⟨x, hx, h1, h2, _, h4⟩
  · exact absurd ⟨rfl, rfl⟩ (h2 e he)
  · have hxE : x = e := hu x hx h1 h2
    rw [h4, hxE] at hat
    simp only [DataW.lit.injEq, Lit.int.injEq, true_and] at hat
    rw [hrun, hat]

set_option maxRecDepth 100000 in
set_option maxHeartbeats 4000000 in
theorem weigh_any (w0 : World) (k n m : Nat) (p : Int) (ao : Option Addr) (cap : Nat) (F T G P L H : Nat → Int) (eo : Option Addr) (ecap b g rcap bm bU bV : Nat) (U V : Nat → Int) (hE : CEnv k n m F T G P L H) (hao : 0 < n → ∀ a, ao = some a → a.block ≠ bU ∧ a.block ≠ bV) (w : World) (hr : Row w ao n F T G) (hR : Room w0 k P eo m ecap L H b g rcap bm bU bV U V w) :
    Calls Try.prog 91 #[.pointer (some ⟨b, 0, none⟩), .agg #[.int .i64 p, .slice ao n cap]] w fun e w' => (∃ v, e = .returned v) ∧ Room w0 k P eo m ecap L H b g rcap bm bU bV (w0U n F T G P L H) (w0D n F T G P L H) w' ∧ Turns w w' [bU, bV] := by
  have hbl : b < w.heap.size := (Array.getElem?_eq_some_iff.1 hR.box).1
  have hUl := hR.up.lt
  have hVl := hR.dn.lt
  have hm := hE.m1000
  have hn := hE.n100
  have R0 : Hid (Room w0 k P eo m ecap L H b g rcap bm bU bV U V (w.alloc (.cells #[.int .i64 p, .slice ao n cap] 45))) := hR.next (alloc_b _ _)
  have c3 : w.cell? ⟨b, 3, none⟩ = some (.slice (some ⟨bU, 0, none⟩) m m) := hR.cell rfl
  have g1 : (w.alloc (.cells #[.int .i64 p, .slice ao n cap] 45)).cell? ⟨w.heap.size, 1, none⟩ = some (.slice ao n cap) := by simp [go_sem]
  have hr0 := hr.alloc (.cells #[.int .i64 p, .slice ao n cap] 45)
  have hA : 0 < n → ∀ a, ao = some a → a.block ≠ bU := fun h a e => (hao h a e).1
  have hA' : 0 < n → ∀ a, ao = some a → a.block ≠ bV := fun h a e => (hao h a e).2
  have HAO : Hid ((0 < n → ∀ a, ao = some a → a.block ≠ bU) ∧ (0 < n → ∀ a, ao = some a → a.block ≠ bV)) := ⟨hA, hA'⟩
  have HR0 : Hid (Row (w.alloc (.cells #[.int .i64 p, .slice ao n cap] 45)) ao n F T G) := hr0
  clear hR hr hA hA' hao hr0
  obtain ⟨w1, hrun1, hI1, hg1⟩ := run_clear_ints (w.alloc (.cells #[.int .i64 p, .slice ao n cap] 45)) bU m m U R0.out.up 0
  have R1 := R0.out.turnU hg1 hI1
  have HR1 := HR0.out.turn hg1 HAO.out.1
  replace g1 := cell_turn g1 hg1 (by omega)
  have c4 : w1.cell? ⟨b, 4, none⟩ = some (.slice (some ⟨bV, 0, none⟩) m m) := R1.cell rfl
  obtain ⟨w2, hrun2, hI2, hg2⟩ := run_clear_ints w1 bV m m V R1.dn 0
  have R2 := (R1.turnD hg2 hI2).congr (U' := wzU F T G P L H 0) (V' := wzD F T G P L H 0) (fun _ _ => rfl) (fun _ _ => rfl)
  have HR2 := HR1.turn hg2 HAO.out.2
  replace g1 := cell_turn g1 hg2 (by omega)
  have hs1 := hg1.size
  have hs2 := hg2.size
  have HTU : Hid (Turns w w2 [bU, bV]) := ((Turns.of_below (alloc_b w _) (Nat.le_refl _) _).trans ((Turns.of_grown hg1).more (by simp))).trans ((Turns.of_grown hg2).more (by simp))
  simp only [World.size_alloc] at hs1
  clear hI1 R1 HR1 R0 HR0 hg1 hI2 hg2
  have HR3 : Hid (Row w2 ao n F T G) := HR2
  have R3 : Hid (Room w0 k P eo m ecap L H b g rcap bm bU bV (wzU F T G P L H 0) (wzD F T G P L H 0) w2) := R2
  clear R2 HR2
  go_enter Try.func91, Try.ntmps91
  go_wp2_with fail
  go_loopw [21] (fun x wr => ∃ t : Nat, t ≤ n ∧ x = .int .i64 t ∧ Room w0 k P eo m ecap L H b g rcap bm bU bV (wzU F T G P L H t) (wzD F T G P L H t) wr ∧ Row wr ao n F T G ∧ w.heap.size < wr.heap.size ∧ Turns w wr [bU, bV]) (fun x _ => n - (intOf x).toNat)
  case atStart => exact ⟨0, Nat.zero_le _, rfl, R3.out, HR3.out, by omega, HTU.out⟩
  case round =>
    clear R3 HR3 hrun1 hrun2 c3 c4 g1 HTU
    obtain ⟨t, ht, rfl, hR, hrow, hsz, htu⟩ := hrel
    have HTU : Hid (Turns w wr [bU, bV]) := htu
    clear htu
    by_cases hlt : t < n
    rotate_left
    · have e : t = n := by omega
      subst e
      have HR9 : Hid (Room w0 k P eo m ecap L H b g rcap bm bU bV (wzU F T G P L H t) (wzD F T G P L H t) wr) := hR
      have c3 : wr.cell? ⟨b, 3, none⟩ = some (.slice (some ⟨bU, 0, none⟩) m m) := hR.cell rfl
      clear hR
      go_wp2_with fail
      refine (farWhereNone_any bU m _ (by omega) _ HR9.out.up).mono ?_
      rintro v1 w5 ⟨⟨v, rfl⟩, hI5, hg5⟩
      have R5 := HR9.out.turnU hg5 hI5
      have HT5 : Hid (Turns w w5 [bU, bV]) := HTU.out.trans ((Turns.of_grown hg5).more (by simp))
      have c4 : w5.cell? ⟨b, 4, none⟩ = some (.slice (some ⟨bV, 0, none⟩) m m) := R5.cell rfl
      clear HR9 hI5 hg5 c3
      go_wp2_with fail
      refine (farWhereNone_any bV m _ (by omega) _ R5.dn).mono ?_
      rintro v1 w6 ⟨⟨v, rfl⟩, hI6, hg6⟩
      have R6 := (R5.turnD hg6 hI6).congr (U' := w0U t F T G P L H) (V' := w0D t F T G P L H) (fun j _ => hE.farU j) (fun j _ => hE.farD j)
      have HT6 : Hid (Turns w w6 [bU, bV]) := HT5.out.trans ((Turns.of_grown hg6).more (by simp))
      clear R5 hI6 hg6 c4
      go_wp2
      go_end0
      exact ⟨⟨_, rfl⟩, R6, HT6.out⟩
    obtain ⟨x, y, e, hx, hy, he, ⟨ex, f0, f1⟩, ⟨ey, t0, t1⟩, ⟨rx, ry⟩, hcase⟩ := hE.arc t hlt
    obtain ⟨tF, hF⟩ : ∃ tF : Nat, F t = (tF : Int) := ⟨(F t).toNat, by omega⟩
    obtain ⟨tT, hT⟩ : ∃ tT : Nat, T t = (tT : Int) := ⟨(T t).toNat, by omega⟩
    have htF : (F t).toNat = tF := by omega
    have htT : (T t).toNat = tT := by omega
    rw [htF] at rx
    rw [htT] at ry
    obtain ⟨ab, aoff, hao, a0, a1, a2⟩ := hrow t hlt
    subst hao
    have hal := lt_of_cell a0
    have lF : tF < k := by omega
    have lT : tT < k := by omega
    have c1 : wr.cell? ⟨b, 1, none⟩ = some (.slice (some ⟨g, 0, none⟩) k rcap) := hR.cell rfl
    have c2 : wr.cell? ⟨b, 2, none⟩ = some (.map (some bm)) := hR.cell rfl
    have c3 : wr.cell? ⟨b, 3, none⟩ = some (.slice (some ⟨bU, 0, none⟩) m m) := hR.cell rfl
    have c4 : wr.cell? ⟨b, 4, none⟩ = some (.slice (some ⟨bV, 0, none⟩) m m) := hR.cell rfl
    have k1 : wr.cell? ⟨g, tF, none⟩ = some (.int .i64 (x : Int)) := by rw [← rx]; exact hR.rks.cell lF
    have k2 : wr.cell? ⟨g, tT, none⟩ = some (.int .i64 (y : Int)) := by rw [← ry]; exact hR.rks.cell lT
    have hbl' : b < wr.heap.size := by omega
    have hgl := hR.rks.lt
    have hml := World.ownsMap.lt hR.nos
    have iF : (tF : Int) < (k : Int) := by omega
    have iT : (tT : Int) < (k : Int) := by omega
    have t9 : (0 : Int) ≤ (t : Int) := by omega
    have t8 : (t : Int) < (n : Int) := by omega
    have e9 : (e : Int) < (m : Int) := by omega
    have R1 : Hid (Room w0 k P eo m ecap L H b g rcap bm bU bV (wzU F T G P L H t) (wzD F T G P L H t) (wr.alloc (.cells #[.int .i64 (tF : Int), .int .i64 (tT : Int), .int .i64 (G t)] 90))) := hR.next (alloc_b _ _)
    have HRW : Hid (Row (wr.alloc (.cells #[.int .i64 (tF : Int), .int .i64 (tT : Int), .int .i64 (G t)] 90)) (some ⟨ab, aoff, none⟩) n F T G) := hrow.alloc _
    clear hR hrow rx ry htF htT
    go_wp2
    go_quiet (fail)
    have hd1 := below_drewN (Below.refl (wr.alloc (.cells #[.int .i64 (tF : Int), .int .i64 (tT : Int), .int .i64 (G t)] 90)).heap.size (wr.alloc (.cells #[.int .i64 (tF : Int), .int .i64 (tT : Int), .int .i64 (G t)] 90))) nq
    have R2 := R1.out.next hd1
    have HR2 : Hid (Row ((wr.alloc (.cells #[.int .i64 (tF : Int), .int .i64 (tT : Int), .int .i64 (G t)] 90)).drewN nq) (some ⟨ab, aoff, none⟩) n F T G) := HRW.out.below hd1 (Nat.le_refl _)
    have g2 : ((wr.alloc (.cells #[.int .i64 (tF : Int), .int .i64 (tT : Int), .int .i64 (G t)] 90)).drewN nq).cell? ⟨wr.heap.size, 2, none⟩ = some (.int .i64 (G t)) := by simp [go_sem]
    have hs9 := hd1.size
    have HT1 : Hid (Turns w ((wr.alloc (.cells #[.int .i64 (tF : Int), .int .i64 (tT : Int), .int .i64 (G t)] 90)).drewN nq) [bU, bV]) := (HTU.out.trans (Turns.of_below (alloc_b wr _) (Nat.le_refl _) _)).trans (Turns.of_below hd1 (Nat.le_refl _) _)
    simp only [World.size_alloc] at hs9
    clear R1 HRW hd1 a0 a1 a2 c1 c2 c3 c4 k1 k2
    generalize (wr.alloc (.cells #[.int .i64 (tF : Int), .int .i64 (tT : Int), .int .i64 (G t)] 90)).drewN nq = W1 at R2 HR2 g2 hs9 HT1 ⊢
    have c2 : W1.cell? ⟨b, 2, none⟩ = some (.map (some bm)) := R2.cell rfl
    have c3 : W1.cell? ⟨b, 3, none⟩ = some (.slice (some ⟨bU, 0, none⟩) m m) := R2.cell rfl
    have c4 : W1.cell? ⟨b, 4, none⟩ = some (.slice (some ⟨bV, 0, none⟩) m m) := R2.cell rfl
    have hwf : EWf L H m := fun j hj => by
      have := hE.ei j hj
      have := hE.k24
      exact ⟨WalkArith.wf_i64 (by omega), WalkArith.wf_i64 (by omega)⟩
    rcases hcase with ⟨hxy, hL, hH⟩ | ⟨hxy, hL, hH⟩
    · have hlk := look_edge R2.nos hwf he (fun q hq h1 h2 => hE.once hq he h1 h2) hL hH
      have hxy' : (x : Int) < (y : Int) := by omega
      have u0 := R2.up.cell he
      have z0 := R2.up.frozen e
      have HX := hE.up hx hy he ex ey hxy hL hH
      have R3 : Hid (Room w0 k P eo m ecap L H b g rcap bm bU bV (wzU F T G P L H t) (wzD F T G P L H t) W1) := R2
      clear R2
      go_wp2
      refine wp_region_last_lit 16 (by kernel_rfl) (by rfl) (by rfl) (by rfl) (by kernel_rfl) (by kernel_rfl) (by kernel_rfl) (by rfl) ?_
      simp only [List.take_succ_cons, List.take_zero, List.cons_append, List.nil_append]
      repeat (go_big_quiet_step (fail))
      refine wpQuiet_nil ?_
      intro w7 hw7
      obtain ⟨nq, rfl⟩ := hw7
      have hd2 := below_drewN (Below.refl W1.heap.size W1) nq
      have R4 := R3.out.next hd2
      have HR4 := HR2.out.below hd2 (Nat.le_refl _)
      have hs8 := hd2.size
      have HT7 : Hid (Turns w (W1.drewN nq) [bU, bV]) := HT1.out.trans (Turns.of_below hd2 (Nat.le_refl _) _)
      clear R3 HR2 hd2 hlk u0 z0 c2 c3 c4 g2
      generalize W1.drewN nq = W7 at R4 HR4 hs8 HT7 ⊢
      have u0 := R4.up.cell he
      have z0 := R4.up.frozen e
      have hgr := gr_setCell W7 bU e (.int .i64 (G t))
      have R5 := (R4.turnU hgr ((R4.up.set e (G t)).congr HX.1)).congr (U' := wzU F T G P L H (t + 1)) (V' := wzD F T G P L H (t + 1)) (fun _ _ => rfl) (fun j hj => (HX.2 j hj).symm)
      have HR5 := HR4.turn hgr HAO.out.1
      have hs7 := hgr.size
      have HT8 := HT7.out.trans ((Turns.of_grown hgr).more (by simp))
      clear R4 HR4 hgr HX
      go_simp
      go_wp2
      go_roundw
      case rel => exact ⟨t + 1, by omega, by go_num, R5, HR5, by omega, HT8⟩
      case measure => simp [intOf]; omega
    · have hlk := look_edge R2.nos hwf he (fun q hq h1 h2 => hE.once hq he h1 h2) hL hH
      have hxy' : ¬ (x : Int) < (y : Int) := by omega
      have u0 := R2.dn.cell he
      have z0 := R2.dn.frozen e
      have HX := hE.dn hx hy he ex ey hxy hL hH
      have R3 : Hid (Room w0 k P eo m ecap L H b g rcap bm bU bV (wzU F T G P L H t) (wzD F T G P L H t) W1) := R2
      clear R2
      go_wp2
      refine wp_region_last_lit 16 (by kernel_rfl) (by rfl) (by rfl) (by rfl) (by kernel_rfl) (by kernel_rfl) (by kernel_rfl) (by rfl) ?_
      simp only [List.take_succ_cons, List.take_zero, List.cons_append, List.nil_append]
      repeat (go_big_quiet_step (fail))
      refine wpQuiet_nil ?_
      intro w7 hw7
      obtain ⟨nq, rfl⟩ := hw7
      have hd2 := below_drewN (Below.refl W1.heap.size W1) nq
      have R4 := R3.out.next hd2
      have HR4 := HR2.out.below hd2 (Nat.le_refl _)
      have hs8 := hd2.size
      have HT7 : Hid (Turns w (W1.drewN nq) [bU, bV]) := HT1.out.trans (Turns.of_below hd2 (Nat.le_refl _) _)
      clear R3 HR2 hd2 hlk u0 z0 c2 c3 c4 g2
      generalize W1.drewN nq = W7 at R4 HR4 hs8 HT7 ⊢
      have u0 := R4.dn.cell he
      have z0 := R4.dn.frozen e
      have hgr := gr_setCell W7 bV e (.int .i64 (G t))
      have R5 := (R4.turnD hgr ((R4.dn.set e (G t)).congr HX.1)).congr (U' := wzU F T G P L H (t + 1)) (V' := wzD F T G P L H (t + 1)) (fun j hj => (HX.2 j hj).symm) (fun _ _ => rfl)
      have HR5 := HR4.turn hgr HAO.out.2
      have hs7 := hgr.size
      have HT8 := HT7.out.trans ((Turns.of_grown hgr).more (by simp))
      clear R4 HR4 hgr HX
      go_simp
      go_wp2
      go_roundw
      case rel => exact ⟨t + 1, by omega, by go_num, R5, HR5, by omega, HT8⟩
      case measure => simp [intOf]; omega

end Go.Proofs.Ytdgnlpafmkhdjag
