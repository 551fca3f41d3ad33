/-
  The program's halves of a step.
-/
import Derived.Test.YtokaechbmnbbiabGreatUnHP
import Derived.Test.YtokaechbmnbbiabGreatPack2
set_option linter.unusedVariables false
set_option linter.unusedSimpArgs false
namespace Go.Proofs.YtokaechbmnbbiabGreat
open Go.RowKit Go.Maps
attribute [local go_sem ↓] Go.wp_at_zero Go.wp_at_succ

structure Gd (p : Int) (n : Nat) (F T G : Nat → Int) (k : Nat) (P : Nat → Int) (m : Nat) (L H U V : Nat → Int) : Prop where
  hn : n ≤ 1048576
  hk : k ≤ 30
  hm : m ≤ 1048576
  q : ∃ q, edB q L H m = true
  arcs : arcsB p F T G n = true
  wfA : WfTo F T n
  wfE : EWf L H m
  wfP : ∀ j, j < k → (Lit.int .i64 (P j)).wf = true
  up : ∀ j, j < m → 0 ≤ U j ∧ U j ≤ 1000000000000
  dn : ∀ j, j < m → 0 ≤ V j ∧ V j ≤ 1000000000000
  ed : ∀ j, j < m → 0 ≤ L j ∧ L j < H j ∧ H j < k
def hlv (m : Nat) (L H : Nat → Int) (lo hi : Nat) (up : Bool) : Option Nat → Value
  | some w => .tuple #[.agg #[.int .i64 (fnd L H w (frR lo hi up : Nat) m : Nat), .bool false], .agg #[.int .i64 (fnd L H w (toR lo hi up : Nat) m : Nat), .bool true], .bool true]
  | none => .tuple #[.agg #[.int .i64 0, .bool false], .agg #[.int .i64 0, .bool false], .bool false]

def st2 (e : Int) (b : Bool) (j : Nat) : Value := if j = 0 then .int .i64 e else .bool b
theorem st2_new (w : World) (e : Int) (b : Bool) : VHas (w.alloc (.cells #[.int .i64 e, .bool b] 104)) w.heap.size 104 2 (st2 e b) :=
  ⟨_, Go.Deep.blk_alloc_new _ _, by simp, fun j hj => by
    have : j = 0 ∨ j = 1 := by omega
    rcases this with rfl | rfl <;> rfl⟩

theorem look_edges0 {W : World} {me m : Nat} {L H : Nat → Int} (h : W.ownsMap Tryz.prog 62 (plainElem Tryz.prog 3) me m (enums L H m)) {a c : Int} (ha : (Lit.int .i64 a).wf = true) (hc : (Lit.int .i64 c).wf = true) :
    (Instr.lookup 84 (.map (some me)) (.agg #[.int .i64 a, .int .i64 c]) true).run Tryz.prog W = .ok (.tuple #[.int .i64 (litI ((enums L H m).atKey (ekl a c) (.lit (.int .i64 0)))), .bool (Maps.has (enums L H m) (ekl a c))]) W := look_edges h ha hc 0
theorem enums_net {q : Int} {L H : Nat → Int} {m : Nat} (hE : edB q L H m = true) (hw : EWf L H m) {a b : Int} (ha : (Lit.int .i64 a).wf = true) (hb : (Lit.int .i64 b).wf = true) :
    Maps.has (enums L H m) (ekl a b) = hsB m L H a b ∧ (hsB m L H a b = true → litI ((enums L H m).atKey (ekl a b) (.lit (.int .i64 0))) = (fnd L H a b m : Nat) ∧ fnd L H a b m < m) := by
  rcases enums_look L H a b ha hb m hw with ⟨h1, h2⟩ | ⟨j, hj, h1, h2, h3, h4⟩
  · have hs : hsB m L H a b = false := by
      cases h : hsB m L H a b with
      | false => rfl
      | true =>
        obtain ⟨j, hj, e1, e2⟩ := hsB_iff.1 h
        exact absurd ⟨e1, e2⟩ (h2 j hj)
    exact ⟨by rw [h1, hs], fun h => by rw [hs] at h; cases h⟩
  · have hs : hsB m L H a b = true := hsB_iff.2 ⟨j, hj, h1, h2⟩
    have hj' := fnd_is hE hj h1 h2
    refine ⟨by rw [h3, hs], fun _ => ?_⟩
    rw [h4, hj']
    exact ⟨rfl, hj⟩
theorem wf_small' {x : Nat} (h : x < 1000) : (Lit.int .i64 (x : Int)).wf = true := WalkArith.wf_i64 (by omega)

structure H8 (w W : World) (p : Int) (ao : Option Addr) (n cap : Nat) (F T G : Nat → Int) (po : Option Addr) (k pcap : Nat) (P : Nat → Int) (eo : Option Addr) (m ecap : Nat) (L H : Nat → Int) (uo : Option Addr) (ucap : Nat) (U : Nat → Int) (vo : Option Addr) (vcap : Nat) (V : Nat → Int) (ma me : Nat) (e : Nat) (up : Bool) : Prop where
  g : G8 w W p ao n cap po k pcap eo m ecap uo ucap vo vcap ma me e up
  r : GOn W ao n F T G po k P eo m L H uo U vo V ma me
  r1 : VHas W (w.heap.size + 1 + 1) 104 2 (st2 0 false)
  r2 : VHas W (w.heap.size + 1 + 1 + 1) 104 2 (st2 0 false)
theorem H8.next {w W W' : World} {p : Int} {ao : Option Addr} {n cap : Nat} {F T G : Nat → Int} {po : Option Addr} {k pcap : Nat} {P : Nat → Int} {eo : Option Addr} {m ecap : Nat} {L H : Nat → Int} {uo : Option Addr} {ucap : Nat} {U : Nat → Int} {vo : Option Addr} {vcap : Nat} {V : Nat → Int} {ma me : Nat} {e : Nat} {up : Bool} (h : H8 w W p ao n cap F T G po k pcap P eo m ecap L H uo ucap U vo vcap V ma me e up) (hb : Below W.heap.size W W') : H8 w W' p ao n cap F T G po k pcap P eo m ecap L H uo ucap U vo vcap V ma me e up :=
  ⟨h.g.next hb, h.r.next hb, h.r1.next hb, h.r2.next hb⟩

set_option maxRecDepth 100000 in
set_option maxHeartbeats 4000000 in
theorem halves_any (p : Int) (ao : Option Addr) (n cap : Nat) (F T G : Nat → Int) (po : Option Addr) (k pcap : Nat) (P : Nat → Int) (eo : Option Addr) (m ecap : Nat) (L H : Nat → Int) (uo : Option Addr) (ucap : Nat) (U : Nat → Int) (vo : Option Addr) (vcap : Nat) (V : Nat → Int) (ma me : Nat) (D : Gd p n F T G k P m L H U V) (lo hi : Nat) (up : Bool) (e : Nat) (he : e < m) (hlo : L e = lo) (hhi : H e = hi) (hfe : fnd L H lo hi m = e) (hfar : (netOf n F T G P m L H U V).wt lo hi up < 1000000000000) (w : World) (hr : GOn w ao n F T G po k P eo m L H uo U vo V ma me) :
    Calls Tryz.prog 115 #[(.agg #[.int .i64 p, .slice ao n cap, .slice po k pcap, .slice eo m ecap, .slice uo m ucap, .slice vo m vcap, .map (some ma), .map (some me)]), (.agg #[.int .i64 (e : Int), .bool up])] w fun x w' => x = .returned (hlv m L H lo hi up ((netOf n F T G P m L H U V).half lo hi up)) ∧ Below w.heap.size w w' := by
  obtain ⟨q, hq⟩ := D.q
  obtain ⟨bu, ou, rfl, _⟩ := hr.rows.up e he
  obtain ⟨bv, ov, rfl, _⟩ := hr.rows.dn e he
  have hed := D.ed e he
  have hloH : lo < hi := by omega
  have hhk : hi < k := by omega
  have hwt : (netOf n F T G P m L H U V).wt lo hi up = (if up = true then U e else V e) := by simp only [Net.wt, netOf, hfe]
  have hfar' : (if up = true then U e else V e) < 1000000000000 := by rw [← hwt]; exact hfar
  have hisA : decide (lastW F T G (P (if up = true then L e else H e).toNat) (P (if up = true then H e else L e).toNat) n = (if up = true then U e else V e)) = (netOf n F T G P m L H U V).isA lo hi up := by
    unfold Net.isA
    rw [hwt, hlo, hhi]
    cases up <;> simp [netOf, frR, toR]
  have HA := fun W h => isArc_any p ao n cap F T G po k pcap P eo m ecap L H (some ⟨bu, ou, none⟩) ucap U (some ⟨bv, ov, none⟩) vcap V ma me D.hn (by have := D.hk; omega) D.hm D.arcs D.wfA D.wfP e up he ⟨hed.1, by omega⟩ ⟨by omega, hed.2.2⟩ hfar' W h
  simp only [hisA] at HA
  clear hisA
  have B0 := (g8_new w (p := p) (ao := ao) (n := n) (cap := cap) (po := po) (k := k) (pcap := pcap) (eo := eo) (m := m) (ecap := ecap) (uo := (some ⟨bu, ou, none⟩)) (ucap := ucap) (vo := (some ⟨bv, ov, none⟩)) (vcap := vcap) (ma := ma) (me := me) (e := e) (up := up)).next (((Below.refl _ _).alloc (Nat.le_refl _) (.cells #[.int .i64 0, .bool false] 104)).alloc (by simp) (.cells #[.int .i64 0, .bool false] 104))
  have R1 := (st2_new ((w.alloc (.cells #[.int .i64 p, .slice ao n cap, .slice po k pcap, .slice eo m ecap, .slice (some ⟨bu, ou, none⟩) m ucap, .slice (some ⟨bv, ov, none⟩) m vcap, .map (some ma), .map (some me)] 98)).alloc (.cells #[.int .i64 (e : Int), .bool up] 104)) 0 false).alloc (.cells #[.int .i64 0, .bool false] 104)
  have R2 := st2_new (((w.alloc (.cells #[.int .i64 p, .slice ao n cap, .slice po k pcap, .slice eo m ecap, .slice (some ⟨bu, ou, none⟩) m ucap, .slice (some ⟨bv, ov, none⟩) m vcap, .map (some ma), .map (some me)] 98)).alloc (.cells #[.int .i64 (e : Int), .bool up] 104)).alloc (.cells #[.int .i64 0, .bool false] 104)) 0 false
  simp only [World.size_alloc] at R1 R2
  have hr0 := hr.next B0.bel
  have K0 : H8 w ((((w.alloc (.cells #[.int .i64 p, .slice ao n cap, .slice po k pcap, .slice eo m ecap, .slice (some ⟨bu, ou, none⟩) m ucap, .slice (some ⟨bv, ov, none⟩) m vcap, .map (some ma), .map (some me)] 98)).alloc (.cells #[.int .i64 (e : Int), .bool up] 104)).alloc (.cells #[.int .i64 0, .bool false] 104)).alloc (.cells #[.int .i64 0, .bool false] 104)) p ao n cap F T G po k pcap P eo m ecap L H (some ⟨bu, ou, none⟩) ucap U (some ⟨bv, ov, none⟩) vcap V ma me e up := ⟨B0, hr0, R1, R2⟩
  clear B0 R1 R2 hr0
  cases hA : (netOf n F T G P m L H U V).isA lo hi up with
  | true =>
    have hh : (netOf n F T G P m L H U V).half lo hi up = none := by unfold Net.half; rw [if_pos hA]
    rw [hA] at HA
    rw [hh]
    go_enter Tryz.func115, Tryz.ntmps115
    go_wp2_with fail
    generalize ((((w.alloc (.cells #[.int .i64 p, .slice ao n cap, .slice po k pcap, .slice eo m ecap, .slice (some ⟨bu, ou, none⟩) m ucap, .slice (some ⟨bv, ov, none⟩) m vcap, .map (some ma), .map (some me)] 98)).alloc (.cells #[.int .i64 (e : Int), .bool up] 104)).alloc (.cells #[.int .i64 0, .bool false] 104)).alloc (.cells #[.int .i64 0, .bool false] 104)) = W at K0 ⊢
    refine (HA _ K0.r).mono ?_
    rintro x w1 ⟨rfl, hb1⟩
    have K1 := K0.next hb1
    have R1 := K1.r1
    have R2 := K1.r2
    have bl := K1.g.bel
    have y0 := R1.cell (j := 0) (by omega)
    have y1 := R1.cell (j := 1) (by omega)
    have y2 := R2.cell (j := 0) (by omega)
    have y3 := R2.cell (j := 1) (by omega)
    have z1 := fun j => R1.frozen j
    have z2 := fun j => R2.frozen j
    simp [st2] at y0 y1 y2 y3
    go_wp2
    have u1 := (((R1.set 0 (.int .i64 (0))).set 1 (.bool false)).other (c := w.heap.size + 1 + 1 + 1) (i := 0) (by omega) (.int .i64 (0))).other (c := w.heap.size + 1 + 1 + 1) (i := 1) (by omega) (.bool false)
    have u2 := ((((R2.other (c := w.heap.size + 1 + 1) (i := 0) (by omega) (.int .i64 (0))).other (c := w.heap.size + 1 + 1) (i := 1) (by omega) (.bool false)).set 0 (.int .i64 (0))).set 1 (.bool false))
    have t0 := u1.cell (j := 0) (by omega)
    have t1 := u1.cell (j := 1) (by omega)
    have t2 := u2.cell (j := 0) (by omega)
    have t3 := u2.cell (j := 1) (by omega)
    simp at t0 t1 t2 t3
    exact bodyPost_ret (v := .tuple #[.agg #[.int .i64 (0), .bool false], .agg #[.int .i64 (0), .bool false], .bool false]) (by simp [results, Tryz.results115, go_sem, t0, t1, t2, t3]) rfl ⟨rfl, (((bl.setCell (p := ⟨w.heap.size + 1 + 1, 0, none⟩) (by simp; omega) _).setCell (p := ⟨w.heap.size + 1 + 1, 1, none⟩) (by simp; omega) _).setCell (p := ⟨w.heap.size + 1 + 1 + 1, 0, none⟩) (by simp; omega) _).setCell (p := ⟨w.heap.size + 1 + 1 + 1, 1, none⟩) (by simp; omega) _⟩
  | false =>
    rw [hA] at HA
    have hnA : (netOf n F T G P m L H U V).half lo hi up = (netOf n F T G P m L H U V).fst lo hi up := by unfold Net.half; rw [if_neg (by simp [hA])]
    cases up
    · go_enter Tryz.func115, Tryz.ntmps115
      go_wp2_with fail
      generalize ((((w.alloc (.cells #[.int .i64 p, .slice ao n cap, .slice po k pcap, .slice eo m ecap, .slice (some ⟨bu, ou, none⟩) m ucap, .slice (some ⟨bv, ov, none⟩) m vcap, .map (some ma), .map (some me)] 98)).alloc (.cells #[.int .i64 (e : Int), .bool false] 104)).alloc (.cells #[.int .i64 0, .bool false] 104)).alloc (.cells #[.int .i64 0, .bool false] 104)) = W at K0 ⊢
      refine (HA _ K0.r).mono ?_
      rintro x w1 ⟨rfl, hb1⟩
      have K1 := K0.next hb1
      have y0 := K1.g.s0
      have y1 := K1.g.s1
      have x0 := K1.g.c0
      have x1 := K1.g.c1
      have x2 := K1.g.c2
      have x3 := K1.g.c3
      have x4 := K1.g.c4
      have x5 := K1.g.c5
      have x6 := K1.g.c6
      have x7 := K1.g.c7
      go_wp2_with fail
      refine (ranks_any _ _ _ _ _ _ _ _ _ _ _ _ _ _ _ _ L H e false he D.hm _ K1.r.rows.eds).mono ?_
      simp only [if_true, if_false, Bool.false_eq_true]
      rintro x w2 ⟨rfl, hb2⟩
      have K2 := K1.next hb2
      clear y0 y1 x0 x1 x2 x3 x4 x5 x6 x7 K0 K1 hb1 hb2 HA
      rw [hlo, hhi]
      have l0 : (lo : Int) < (hi : Int) := by omega
      have l0' : ¬ (hi : Int) < (lo : Int) := by omega
      have m1 : min (lo : Int) (hi : Int) = lo := by omega
      have m2 : min (hi : Int) (lo : Int) = lo := by omega
      go_wp2
      go_loopw [28] (fun x wr => ∃ v : Nat, v ≤ lo ∧ x = .int .i64 v ∧ (∀ t, t < v → (netOf n F T G P m L H U V).fit lo hi false t = false) ∧ H8 w wr p ao n cap F T G po k pcap P eo m ecap L H (some ⟨bu, ou, none⟩) ucap U (some ⟨bv, ov, none⟩) vcap V ma me e false) (fun x _ => lo - (intOf x).toNat)
      case atStart => exact ⟨0, Nat.zero_le _, rfl, fun t ht => by omega, K2⟩
      case round =>
        clear K2
        obtain ⟨v, hv, rfl, hno, K2⟩ := hrel
        have HNO : Hid (∀ t, t < v → (netOf n F T G P m L H U V).fit lo hi false t = false) := hno
        clear hno
        by_cases hlt : v < lo
        rotate_left
        · obtain rfl : v = lo := by omega
          have hh : (netOf n F T G P m L H U V).half v hi false = none := by rw [hnA]; exact Net.fst_end HNO.out
          have R1 := K2.r1
          have R2 := K2.r2
          have bl := K2.g.bel
          have y0 := R1.cell (j := 0) (by omega)
          have y1 := R1.cell (j := 1) (by omega)
          have y2 := R2.cell (j := 0) (by omega)
          have y3 := R2.cell (j := 1) (by omega)
          have z1 := fun j => R1.frozen j
          have z2 := fun j => R2.frozen j
          simp [st2] at y0 y1 y2 y3
          go_wp2
          have u1 := (((R1.set 0 (.int .i64 (0))).set 1 (.bool false)).other (c := w.heap.size + 1 + 1 + 1) (i := 0) (by omega) (.int .i64 (0))).other (c := w.heap.size + 1 + 1 + 1) (i := 1) (by omega) (.bool false)
          have u2 := ((((R2.other (c := w.heap.size + 1 + 1) (i := 0) (by omega) (.int .i64 (0))).other (c := w.heap.size + 1 + 1) (i := 1) (by omega) (.bool false)).set 0 (.int .i64 (0))).set 1 (.bool false))
          have t0 := u1.cell (j := 0) (by omega)
          have t1 := u1.cell (j := 1) (by omega)
          have t2 := u2.cell (j := 0) (by omega)
          have t3 := u2.cell (j := 1) (by omega)
          simp at t0 t1 t2 t3
          exact bodyPost_ret (v := .tuple #[.agg #[.int .i64 (0), .bool false], .agg #[.int .i64 (0), .bool false], .bool false]) (by simp [results, Tryz.results115, go_sem, t0, t1, t2, t3]) rfl ⟨by first | (rw [hh]; rfl) | (rw [hnA] at hh; rw [hh]; rfl), (((bl.setCell (p := ⟨w.heap.size + 1 + 1, 0, none⟩) (by simp; omega) _).setCell (p := ⟨w.heap.size + 1 + 1, 1, none⟩) (by simp; omega) _).setCell (p := ⟨w.heap.size + 1 + 1 + 1, 0, none⟩) (by simp; omega) _).setCell (p := ⟨w.heap.size + 1 + 1 + 1, 1, none⟩) (by simp; omega) _⟩
        have l7 : (v : Int) < (lo : Int) := by omega
        have hk30 := D.hk
        have wv := wf_small' (x := v) (by omega)
        have wl := wf_small' (x := lo) (by omega)
        have wh := wf_small' (x := hi) (by omega)
        have x7 := K2.g.c7
        have k1 := look_edges0 K2.r.em wv wh
        have k2 := look_edges0 K2.r.em wv wl
        obtain ⟨n1, n2⟩ := enums_net hq D.wfE wv wh
        obtain ⟨n3, n4⟩ := enums_net hq D.wfE wv wl
        rw [n1] at k1
        rw [n3] at k2
        generalize litI ((enums L H m).atKey (ekl (v : Int) (hi : Int)) (.lit (.int .i64 0))) = X1 at k1 n2
        generalize litI ((enums L H m).atKey (ekl (v : Int) (lo : Int)) (.lit (.int .i64 0))) = X2 at k2 n4
        clear n1 n3
        have hcont : ∀ h : (netOf n F T G P m L H U V).fit lo hi false v = false, ∀ t, t < v + 1 → (netOf n F T G P m L H U V).fit lo hi false t = false := fun h t ht => by
          by_cases e : t = v
          · subst e; exact h
          · exact HNO.out t (by omega)
        cases hs1 : hsB m L H v hi with
        | false =>
          have hf := hcont (by simp [Net.fit, netOf, frR, toR, hs1])
          rw [hs1] at k1
          rw [show X1 = X1 from rfl] at k1
          clear hcont n4
          go_wp2
          refine wp_region_held_drew (S := fun w' => H8 w w' p ao n cap F T G po k pcap P eo m ecap L H (some ⟨bu, ou, none⟩) ucap U (some ⟨bv, ov, none⟩) vcap V ma me e false) (by kernel_rfl) (K2.next (Below.refl _ _).drew) (fun hS => ?_)
          refine takeH 0 (some 49) (.bool false) rfl rfl (by kernel_rfl) (by kernel_rfl) (by kernel_rfl) (fun _ _ _ h => h) (by rfl) hS (fun w hSw => by obtain ⟨-, z0, z1, z2, z3, z4, z5, z6, z7, z8, z9, -⟩ := hSw.g; go_split_ands; go_simp <;> first | rfl | omega | (intro h; exfalso; omega)) ?_
          simp only [Act.put, List.setIfInBounds_toArray, List.set_cons_zero, List.set_cons_succ]
          refine takeH 1 (some 50) (.bool false) rfl rfl (by kernel_rfl) (by kernel_rfl) (by kernel_rfl) (fun _ _ _ h => h) (by rfl) hS (fun w hSw => by obtain ⟨-, z0, z1, z2, z3, z4, z5, z6, z7, z8, z9, -⟩ := hSw.g; go_split_ands; go_simp <;> first | rfl | omega | (intro h; exfalso; omega)) ?_
          simp only [Act.put, List.setIfInBounds_toArray, List.set_cons_zero, List.set_cons_succ]
          refine skipH 2 (some 51) rfl rfl (by kernel_rfl) (by kernel_rfl) (by kernel_rfl) (fun _ _ _ h => h) (by rfl) hS ?_
          simp only [Act.put, List.setIfInBounds_toArray, List.set_cons_zero, List.set_cons_succ]
          refine takeH 3 (some 52) (.bool false) rfl rfl (by kernel_rfl) (by kernel_rfl) (by kernel_rfl) (fun _ _ _ h => h) (by rfl) hS (fun w hSw => by obtain ⟨-, z0, z1, z2, z3, z4, z5, z6, z7, z8, z9, -⟩ := hSw.g; go_split_ands; go_simp <;> first | rfl | omega | (intro h; exfalso; omega)) ?_
          simp only [Act.put, List.setIfInBounds_toArray, List.set_cons_zero, List.set_cons_succ]
          refine takeH 4 (some 53) (.bool false) rfl rfl (by kernel_rfl) (by kernel_rfl) (by kernel_rfl) (fun _ _ _ h => h) (by rfl) hS (fun w hSw => by obtain ⟨-, z0, z1, z2, z3, z4, z5, z6, z7, z8, z9, -⟩ := hSw.g; go_split_ands; go_simp <;> first | rfl | omega | (intro h; exfalso; omega)) ?_
          simp only [Act.put, List.setIfInBounds_toArray, List.set_cons_zero, List.set_cons_succ]
          refine skipH 5 (some 54) rfl rfl (by kernel_rfl) (by kernel_rfl) (by kernel_rfl) (fun _ _ _ h => h) (by rfl) hS ?_
          simp only [Act.put, List.setIfInBounds_toArray, List.set_cons_zero, List.set_cons_succ]
          refine skipH 6 (some 55) rfl rfl (by kernel_rfl) (by kernel_rfl) (by kernel_rfl) (fun _ _ _ h => h) (by rfl) hS ?_
          simp only [Act.put, List.setIfInBounds_toArray, List.set_cons_zero, List.set_cons_succ]
          refine skipH 7 (some 56) rfl rfl (by kernel_rfl) (by kernel_rfl) (by kernel_rfl) (fun _ _ _ h => h) (by rfl) hS ?_
          simp only [Act.put, List.setIfInBounds_toArray, List.set_cons_zero, List.set_cons_succ]
          refine skipH 8 (some 57) rfl rfl (by kernel_rfl) (by kernel_rfl) (by kernel_rfl) (fun _ _ _ h => h) (by rfl) hS ?_
          simp only [Act.put, List.setIfInBounds_toArray, List.set_cons_zero, List.set_cons_succ]
          refine skipH 9 (some 58) rfl rfl (by kernel_rfl) (by kernel_rfl) (by kernel_rfl) (fun _ _ _ h => h) (by rfl) hS ?_
          simp only [Act.put, List.setIfInBounds_toArray, List.set_cons_zero, List.set_cons_succ]
          refine skipH 10 (some 59) rfl rfl (by kernel_rfl) (by kernel_rfl) (by kernel_rfl) (fun _ _ _ h => h) (by rfl) hS ?_
          simp only [Act.put, List.setIfInBounds_toArray, List.set_cons_zero, List.set_cons_succ]
          refine skipH 11 (some 60) rfl rfl (by kernel_rfl) (by kernel_rfl) (by kernel_rfl) (fun _ _ _ h => h) (by rfl) hS ?_
          simp only [Act.put, List.setIfInBounds_toArray, List.set_cons_zero, List.set_cons_succ]
          refine skipH 12 (some 61) rfl rfl (by kernel_rfl) (by kernel_rfl) (by kernel_rfl) (fun _ _ _ h => h) (by rfl) hS ?_
          simp only [Act.put, List.setIfInBounds_toArray, List.set_cons_zero, List.set_cons_succ]
          refine skipH 13 (some 62) rfl rfl (by kernel_rfl) (by kernel_rfl) (by kernel_rfl) (fun _ _ _ h => h) (by rfl) hS ?_
          simp only [Act.put, List.setIfInBounds_toArray, List.set_cons_zero, List.set_cons_succ]
          refine skipH 14 (some 63) rfl rfl (by kernel_rfl) (by kernel_rfl) (by kernel_rfl) (fun _ _ _ h => h) (by rfl) hS ?_
          simp only [Act.put, List.setIfInBounds_toArray, List.set_cons_zero, List.set_cons_succ]
          refine skipH 15 (some 64) rfl rfl (by kernel_rfl) (by kernel_rfl) (by kernel_rfl) (fun _ _ _ h => h) (by rfl) hS ?_
          simp only [Act.put, List.setIfInBounds_toArray, List.set_cons_zero, List.set_cons_succ]
          refine skipH 16 (some 65) rfl rfl (by kernel_rfl) (by kernel_rfl) (by kernel_rfl) (fun _ _ _ h => h) (by rfl) hS ?_
          simp only [Act.put, List.setIfInBounds_toArray, List.set_cons_zero, List.set_cons_succ]
          refine skipH 17 (some 66) rfl rfl (by kernel_rfl) (by kernel_rfl) (by kernel_rfl) (fun _ _ _ h => h) (by rfl) hS ?_
          simp only [Act.put, List.setIfInBounds_toArray, List.set_cons_zero, List.set_cons_succ]
          refine skipH 18 (some 67) rfl rfl (by kernel_rfl) (by kernel_rfl) (by kernel_rfl) (fun _ _ _ h => h) (by rfl) hS ?_
          simp only [Act.put, List.setIfInBounds_toArray, List.set_cons_zero, List.set_cons_succ]
          refine skipH 19 (some 68) rfl rfl (by kernel_rfl) (by kernel_rfl) (by kernel_rfl) (fun _ _ _ h => h) (by rfl) hS ?_
          simp only [Act.put, List.setIfInBounds_toArray, List.set_cons_zero, List.set_cons_succ]
          refine skipH 20 (some 69) rfl rfl (by kernel_rfl) (by kernel_rfl) (by kernel_rfl) (fun _ _ _ h => h) (by rfl) hS ?_
          simp only [Act.put, List.setIfInBounds_toArray, List.set_cons_zero, List.set_cons_succ]
          refine skipH 21 (some 70) rfl rfl (by kernel_rfl) (by kernel_rfl) (by kernel_rfl) (fun _ _ _ h => h) (by rfl) hS ?_
          simp only [Act.put, List.setIfInBounds_toArray, List.set_cons_zero, List.set_cons_succ]
          refine skipH 22 (some 71) rfl rfl (by kernel_rfl) (by kernel_rfl) (by kernel_rfl) (fun _ _ _ h => h) (by rfl) hS ?_
          simp only [Act.put, List.setIfInBounds_toArray, List.set_cons_zero, List.set_cons_succ]
          refine skipH 23 (some 72) rfl rfl (by kernel_rfl) (by kernel_rfl) (by kernel_rfl) (fun _ _ _ h => h) (by rfl) hS ?_
          simp only [Act.put, List.setIfInBounds_toArray, List.set_cons_zero, List.set_cons_succ]
          refine skipH 24 (some 73) rfl rfl (by kernel_rfl) (by kernel_rfl) (by kernel_rfl) (fun _ _ _ h => h) (by rfl) hS ?_
          simp only [Act.put, List.setIfInBounds_toArray, List.set_cons_zero, List.set_cons_succ]
          refine skipH 25 (some 74) rfl rfl (by kernel_rfl) (by kernel_rfl) (by kernel_rfl) (fun _ _ _ h => h) (by rfl) hS ?_
          simp only [Act.put, List.setIfInBounds_toArray, List.set_cons_zero, List.set_cons_succ]
          refine skipH 26 (some 75) rfl rfl (by kernel_rfl) (by kernel_rfl) (by kernel_rfl) (fun _ _ _ h => h) (by rfl) hS ?_
          simp only [Act.put, List.setIfInBounds_toArray, List.set_cons_zero, List.set_cons_succ]
          refine takeH 27 (some 76) (.bool false) rfl rfl (by kernel_rfl) (by kernel_rfl) (by kernel_rfl) (fun _ _ _ h => h) (by rfl) hS (fun w hSw => by obtain ⟨-, z0, z1, z2, z3, z4, z5, z6, z7, z8, z9, -⟩ := hSw.g; go_split_ands; go_simp <;> first | rfl | omega | (intro h; exfalso; omega)) ?_
          simp only [Act.put, List.setIfInBounds_toArray, List.set_cons_zero, List.set_cons_succ]
          refine wpAnyH_done (by kernel_rfl) ?_ _
          go_wp2
          go_roundw
          case rel => exact ⟨v + 1, by omega, by go_num, hf, hS⟩
          case measure => simp [intOf]; omega
        | true =>
        obtain ⟨rfl, hi0⟩ := n2 hs1
        cases hs2 : hsB m L H v lo with
        | false =>
          have hf := hcont (by simp [Net.fit, netOf, frR, toR, hs2])
          rw [hs1] at k1
          rw [hs2] at k2
          clear hcont n2 n4
          go_wp2
          refine wp_region_held_drew (S := fun w' => H8 w w' p ao n cap F T G po k pcap P eo m ecap L H (some ⟨bu, ou, none⟩) ucap U (some ⟨bv, ov, none⟩) vcap V ma me e false) (by kernel_rfl) (K2.next (Below.refl _ _).drew) (fun hS => ?_)
          refine takeH 0 (some 49) (.bool true) rfl rfl (by kernel_rfl) (by kernel_rfl) (by kernel_rfl) (fun _ _ _ h => h) (by rfl) hS (fun w hSw => by obtain ⟨-, z0, z1, z2, z3, z4, z5, z6, z7, z8, z9, -⟩ := hSw.g; go_split_ands; go_simp <;> first | rfl | omega | (intro h; exfalso; omega)) ?_
          simp only [Act.put, List.setIfInBounds_toArray, List.set_cons_zero, List.set_cons_succ]
          refine takeH 1 (some 50) (.bool true) rfl rfl (by kernel_rfl) (by kernel_rfl) (by kernel_rfl) (fun _ _ _ h => h) (by rfl) hS (fun w hSw => by obtain ⟨-, z0, z1, z2, z3, z4, z5, z6, z7, z8, z9, -⟩ := hSw.g; go_split_ands; go_simp <;> first | rfl | omega | (intro h; exfalso; omega)) ?_
          simp only [Act.put, List.setIfInBounds_toArray, List.set_cons_zero, List.set_cons_succ]
          refine takeH 2 (some 51) (.bool false) rfl rfl (by kernel_rfl) (by kernel_rfl) (by kernel_rfl) (fun _ _ _ h => h) (by rfl) hS (fun w hSw => by obtain ⟨-, z0, z1, z2, z3, z4, z5, z6, z7, z8, z9, -⟩ := hSw.g; go_split_ands; go_simp <;> first | rfl | omega | (intro h; exfalso; omega)) ?_
          simp only [Act.put, List.setIfInBounds_toArray, List.set_cons_zero, List.set_cons_succ]
          refine takeH 3 (some 52) (.bool false) rfl rfl (by kernel_rfl) (by kernel_rfl) (by kernel_rfl) (fun _ _ _ h => h) (by rfl) hS (fun w hSw => by obtain ⟨-, z0, z1, z2, z3, z4, z5, z6, z7, z8, z9, -⟩ := hSw.g; go_split_ands; go_simp <;> first | rfl | omega | (intro h; exfalso; omega)) ?_
          simp only [Act.put, List.setIfInBounds_toArray, List.set_cons_zero, List.set_cons_succ]
          refine takeH 4 (some 53) (.bool false) rfl rfl (by kernel_rfl) (by kernel_rfl) (by kernel_rfl) (fun _ _ _ h => h) (by rfl) hS (fun w hSw => by obtain ⟨-, z0, z1, z2, z3, z4, z5, z6, z7, z8, z9, -⟩ := hSw.g; go_split_ands; go_simp <;> first | rfl | omega | (intro h; exfalso; omega)) ?_
          simp only [Act.put, List.setIfInBounds_toArray, List.set_cons_zero, List.set_cons_succ]
          refine skipH 5 (some 54) rfl rfl (by kernel_rfl) (by kernel_rfl) (by kernel_rfl) (fun _ _ _ h => h) (by rfl) hS ?_
          simp only [Act.put, List.setIfInBounds_toArray, List.set_cons_zero, List.set_cons_succ]
          refine skipH 6 (some 55) rfl rfl (by kernel_rfl) (by kernel_rfl) (by kernel_rfl) (fun _ _ _ h => h) (by rfl) hS ?_
          simp only [Act.put, List.setIfInBounds_toArray, List.set_cons_zero, List.set_cons_succ]
          refine skipH 7 (some 56) rfl rfl (by kernel_rfl) (by kernel_rfl) (by kernel_rfl) (fun _ _ _ h => h) (by rfl) hS ?_
          simp only [Act.put, List.setIfInBounds_toArray, List.set_cons_zero, List.set_cons_succ]
          refine skipH 8 (some 57) rfl rfl (by kernel_rfl) (by kernel_rfl) (by kernel_rfl) (fun _ _ _ h => h) (by rfl) hS ?_
          simp only [Act.put, List.setIfInBounds_toArray, List.set_cons_zero, List.set_cons_succ]
          refine skipH 9 (some 58) rfl rfl (by kernel_rfl) (by kernel_rfl) (by kernel_rfl) (fun _ _ _ h => h) (by rfl) hS ?_
          simp only [Act.put, List.setIfInBounds_toArray, List.set_cons_zero, List.set_cons_succ]
          refine skipH 10 (some 59) rfl rfl (by kernel_rfl) (by kernel_rfl) (by kernel_rfl) (fun _ _ _ h => h) (by rfl) hS ?_
          simp only [Act.put, List.setIfInBounds_toArray, List.set_cons_zero, List.set_cons_succ]
          refine skipH 11 (some 60) rfl rfl (by kernel_rfl) (by kernel_rfl) (by kernel_rfl) (fun _ _ _ h => h) (by rfl) hS ?_
          simp only [Act.put, List.setIfInBounds_toArray, List.set_cons_zero, List.set_cons_succ]
          refine skipH 12 (some 61) rfl rfl (by kernel_rfl) (by kernel_rfl) (by kernel_rfl) (fun _ _ _ h => h) (by rfl) hS ?_
          simp only [Act.put, List.setIfInBounds_toArray, List.set_cons_zero, List.set_cons_succ]
          refine skipH 13 (some 62) rfl rfl (by kernel_rfl) (by kernel_rfl) (by kernel_rfl) (fun _ _ _ h => h) (by rfl) hS ?_
          simp only [Act.put, List.setIfInBounds_toArray, List.set_cons_zero, List.set_cons_succ]
          refine skipH 14 (some 63) rfl rfl (by kernel_rfl) (by kernel_rfl) (by kernel_rfl) (fun _ _ _ h => h) (by rfl) hS ?_
          simp only [Act.put, List.setIfInBounds_toArray, List.set_cons_zero, List.set_cons_succ]
          refine skipH 15 (some 64) rfl rfl (by kernel_rfl) (by kernel_rfl) (by kernel_rfl) (fun _ _ _ h => h) (by rfl) hS ?_
          simp only [Act.put, List.setIfInBounds_toArray, List.set_cons_zero, List.set_cons_succ]
          refine skipH 16 (some 65) rfl rfl (by kernel_rfl) (by kernel_rfl) (by kernel_rfl) (fun _ _ _ h => h) (by rfl) hS ?_
          simp only [Act.put, List.setIfInBounds_toArray, List.set_cons_zero, List.set_cons_succ]
          refine skipH 17 (some 66) rfl rfl (by kernel_rfl) (by kernel_rfl) (by kernel_rfl) (fun _ _ _ h => h) (by rfl) hS ?_
          simp only [Act.put, List.setIfInBounds_toArray, List.set_cons_zero, List.set_cons_succ]
          refine skipH 18 (some 67) rfl rfl (by kernel_rfl) (by kernel_rfl) (by kernel_rfl) (fun _ _ _ h => h) (by rfl) hS ?_
          simp only [Act.put, List.setIfInBounds_toArray, List.set_cons_zero, List.set_cons_succ]
          refine skipH 19 (some 68) rfl rfl (by kernel_rfl) (by kernel_rfl) (by kernel_rfl) (fun _ _ _ h => h) (by rfl) hS ?_
          simp only [Act.put, List.setIfInBounds_toArray, List.set_cons_zero, List.set_cons_succ]
          refine skipH 20 (some 69) rfl rfl (by kernel_rfl) (by kernel_rfl) (by kernel_rfl) (fun _ _ _ h => h) (by rfl) hS ?_
          simp only [Act.put, List.setIfInBounds_toArray, List.set_cons_zero, List.set_cons_succ]
          refine skipH 21 (some 70) rfl rfl (by kernel_rfl) (by kernel_rfl) (by kernel_rfl) (fun _ _ _ h => h) (by rfl) hS ?_
          simp only [Act.put, List.setIfInBounds_toArray, List.set_cons_zero, List.set_cons_succ]
          refine skipH 22 (some 71) rfl rfl (by kernel_rfl) (by kernel_rfl) (by kernel_rfl) (fun _ _ _ h => h) (by rfl) hS ?_
          simp only [Act.put, List.setIfInBounds_toArray, List.set_cons_zero, List.set_cons_succ]
          refine skipH 23 (some 72) rfl rfl (by kernel_rfl) (by kernel_rfl) (by kernel_rfl) (fun _ _ _ h => h) (by rfl) hS ?_
          simp only [Act.put, List.setIfInBounds_toArray, List.set_cons_zero, List.set_cons_succ]
          refine skipH 24 (some 73) rfl rfl (by kernel_rfl) (by kernel_rfl) (by kernel_rfl) (fun _ _ _ h => h) (by rfl) hS ?_
          simp only [Act.put, List.setIfInBounds_toArray, List.set_cons_zero, List.set_cons_succ]
          refine skipH 25 (some 74) rfl rfl (by kernel_rfl) (by kernel_rfl) (by kernel_rfl) (fun _ _ _ h => h) (by rfl) hS ?_
          simp only [Act.put, List.setIfInBounds_toArray, List.set_cons_zero, List.set_cons_succ]
          refine skipH 26 (some 75) rfl rfl (by kernel_rfl) (by kernel_rfl) (by kernel_rfl) (fun _ _ _ h => h) (by rfl) hS ?_
          simp only [Act.put, List.setIfInBounds_toArray, List.set_cons_zero, List.set_cons_succ]
          refine takeH 27 (some 76) (.bool false) rfl rfl (by kernel_rfl) (by kernel_rfl) (by kernel_rfl) (fun _ _ _ h => h) (by rfl) hS (fun w hSw => by obtain ⟨-, z0, z1, z2, z3, z4, z5, z6, z7, z8, z9, -⟩ := hSw.g; go_split_ands; go_simp <;> first | rfl | omega | (intro h; exfalso; omega)) ?_
          simp only [Act.put, List.setIfInBounds_toArray, List.set_cons_zero, List.set_cons_succ]
          refine wpAnyH_done (by kernel_rfl) ?_ _
          go_wp2
          go_roundw
          case rel => exact ⟨v + 1, by omega, by go_num, hf, hS⟩
          case measure => simp [intOf]; omega
        | true =>
        obtain ⟨rfl, hk0⟩ := n4 hs2
        rw [hs1] at k1
        rw [hs2] at k2
        have l8 : (0 : Int) ≤ ((fnd L H v hi m : Nat) : Int) := by omega
        have l9 : ((fnd L H v hi m : Nat) : Int) < (m : Int) := by omega
        have l10 : (0 : Int) ≤ ((fnd L H v lo m : Nat) : Int) := by omega
        have l11 : ((fnd L H v lo m : Nat) : Int) < (m : Int) := by omega
        have l12 : (0 : Int) ≤ (e : Int) := by omega
        have l13 : (e : Int) < (m : Int) := by omega
        have hfit : (netOf n F T G P m L H U V).fit lo hi false v = decide (addF (V (fnd L H v hi m)) (U (fnd L H v lo m)) = V e) := by simp [Net.fit, netOf, frR, toR, hs1, hs2, Net.wt, hfe]
        by_cases hqq : addF (V (fnd L H v hi m)) (U (fnd L H v lo m)) = V e
        · have hqd : (min 1000000000000 (V (fnd L H v hi m) + U (fnd L H v lo m)) == V e) = true := by simpa [addF] using hqq
          clear hcont n2 n4
          go_wp2
          refine wp_region_held_drew (S := fun w' => H8 w w' p ao n cap F T G po k pcap P eo m ecap L H (some ⟨bu, ou, none⟩) ucap U (some ⟨bv, ov, none⟩) vcap V ma me e false) (by kernel_rfl) (K2.next (Below.refl _ _).drew) (fun hS => ?_)
          refine takeH 0 (some 49) (.bool true) rfl rfl (by kernel_rfl) (by kernel_rfl) (by kernel_rfl) (fun _ _ _ h => h) (by rfl) hS (fun w hSw => by obtain ⟨-, z0, z1, z2, z3, z4, z5, z6, z7, z8, z9, -⟩ := hSw.g; obtain ⟨bx, ox, ex, z10⟩ := hSw.r.rows.dn _ hi0; cases ex; obtain ⟨bx, ox, ex, z11⟩ := hSw.r.rows.up _ hk0; cases ex; obtain ⟨bx, ox, ex, z12⟩ := hSw.r.rows.dn e he; cases ex; go_split_ands; go_simp <;> first | rfl | omega | (intro h; exfalso; omega)) ?_
          simp only [Act.put, List.setIfInBounds_toArray, List.set_cons_zero, List.set_cons_succ]
          refine takeH 1 (some 50) (.bool true) rfl rfl (by kernel_rfl) (by kernel_rfl) (by kernel_rfl) (fun _ _ _ h => h) (by rfl) hS (fun w hSw => by obtain ⟨-, z0, z1, z2, z3, z4, z5, z6, z7, z8, z9, -⟩ := hSw.g; obtain ⟨bx, ox, ex, z10⟩ := hSw.r.rows.dn _ hi0; cases ex; obtain ⟨bx, ox, ex, z11⟩ := hSw.r.rows.up _ hk0; cases ex; obtain ⟨bx, ox, ex, z12⟩ := hSw.r.rows.dn e he; cases ex; go_split_ands; go_simp <;> first | rfl | omega | (intro h; exfalso; omega)) ?_
          simp only [Act.put, List.setIfInBounds_toArray, List.set_cons_zero, List.set_cons_succ]
          refine takeH 2 (some 51) (.bool true) rfl rfl (by kernel_rfl) (by kernel_rfl) (by kernel_rfl) (fun _ _ _ h => h) (by rfl) hS (fun w hSw => by obtain ⟨-, z0, z1, z2, z3, z4, z5, z6, z7, z8, z9, -⟩ := hSw.g; obtain ⟨bx, ox, ex, z10⟩ := hSw.r.rows.dn _ hi0; cases ex; obtain ⟨bx, ox, ex, z11⟩ := hSw.r.rows.up _ hk0; cases ex; obtain ⟨bx, ox, ex, z12⟩ := hSw.r.rows.dn e he; cases ex; go_split_ands; go_simp <;> first | rfl | omega | (intro h; exfalso; omega)) ?_
          simp only [Act.put, List.setIfInBounds_toArray, List.set_cons_zero, List.set_cons_succ]
          refine takeH 3 (some 52) (.bool true) rfl rfl (by kernel_rfl) (by kernel_rfl) (by kernel_rfl) (fun _ _ _ h => h) (by rfl) hS (fun w hSw => by obtain ⟨-, z0, z1, z2, z3, z4, z5, z6, z7, z8, z9, -⟩ := hSw.g; obtain ⟨bx, ox, ex, z10⟩ := hSw.r.rows.dn _ hi0; cases ex; obtain ⟨bx, ox, ex, z11⟩ := hSw.r.rows.up _ hk0; cases ex; obtain ⟨bx, ox, ex, z12⟩ := hSw.r.rows.dn e he; cases ex; go_split_ands; go_simp <;> first | rfl | omega | (intro h; exfalso; omega)) ?_
          simp only [Act.put, List.setIfInBounds_toArray, List.set_cons_zero, List.set_cons_succ]
          refine takeH 4 (some 53) (.bool true) rfl rfl (by kernel_rfl) (by kernel_rfl) (by kernel_rfl) (fun _ _ _ h => h) (by rfl) hS (fun w hSw => by obtain ⟨-, z0, z1, z2, z3, z4, z5, z6, z7, z8, z9, -⟩ := hSw.g; obtain ⟨bx, ox, ex, z10⟩ := hSw.r.rows.dn _ hi0; cases ex; obtain ⟨bx, ox, ex, z11⟩ := hSw.r.rows.up _ hk0; cases ex; obtain ⟨bx, ox, ex, z12⟩ := hSw.r.rows.dn e he; cases ex; go_split_ands; go_simp <;> first | rfl | omega | (intro h; exfalso; omega)) ?_
          simp only [Act.put, List.setIfInBounds_toArray, List.set_cons_zero, List.set_cons_succ]
          refine takeH 5 (some 54) (.pointer (some ⟨w.heap.size, 4, none⟩)) rfl rfl (by kernel_rfl) (by kernel_rfl) (by kernel_rfl) (fun _ _ _ h => h) (by rfl) hS (fun w hSw => by obtain ⟨-, z0, z1, z2, z3, z4, z5, z6, z7, z8, z9, -⟩ := hSw.g; obtain ⟨bx, ox, ex, z10⟩ := hSw.r.rows.dn _ hi0; cases ex; obtain ⟨bx, ox, ex, z11⟩ := hSw.r.rows.up _ hk0; cases ex; obtain ⟨bx, ox, ex, z12⟩ := hSw.r.rows.dn e he; cases ex; go_split_ands; go_simp <;> first | rfl | omega | (intro h; exfalso; omega)) ?_
          simp only [Act.put, List.setIfInBounds_toArray, List.set_cons_zero, List.set_cons_succ]
          refine takeH 6 (some 55) (.pointer (some ⟨w.heap.size, 5, none⟩)) rfl rfl (by kernel_rfl) (by kernel_rfl) (by kernel_rfl) (fun _ _ _ h => h) (by rfl) hS (fun w hSw => by obtain ⟨-, z0, z1, z2, z3, z4, z5, z6, z7, z8, z9, -⟩ := hSw.g; obtain ⟨bx, ox, ex, z10⟩ := hSw.r.rows.dn _ hi0; cases ex; obtain ⟨bx, ox, ex, z11⟩ := hSw.r.rows.up _ hk0; cases ex; obtain ⟨bx, ox, ex, z12⟩ := hSw.r.rows.dn e he; cases ex; go_split_ands; go_simp <;> first | rfl | omega | (intro h; exfalso; omega)) ?_
          simp only [Act.put, List.setIfInBounds_toArray, List.set_cons_zero, List.set_cons_succ]
          refine takeH 7 (some 56) (.slice (some ⟨bv, ov, none⟩) m vcap) rfl rfl (by kernel_rfl) (by kernel_rfl) (by kernel_rfl) (fun _ _ _ h => h) (by rfl) hS (fun w hSw => by obtain ⟨-, z0, z1, z2, z3, z4, z5, z6, z7, z8, z9, -⟩ := hSw.g; obtain ⟨bx, ox, ex, z10⟩ := hSw.r.rows.dn _ hi0; cases ex; obtain ⟨bx, ox, ex, z11⟩ := hSw.r.rows.up _ hk0; cases ex; obtain ⟨bx, ox, ex, z12⟩ := hSw.r.rows.dn e he; cases ex; go_split_ands; go_simp <;> first | rfl | omega | (intro h; exfalso; omega)) ?_
          simp only [Act.put, List.setIfInBounds_toArray, List.set_cons_zero, List.set_cons_succ]
          refine takeH 8 (some 57) (.int .i64 ((fnd L H v hi m : Nat) : Int)) rfl rfl (by kernel_rfl) (by kernel_rfl) (by kernel_rfl) (fun _ _ _ h => h) (by rfl) hS (fun w hSw => by obtain ⟨-, z0, z1, z2, z3, z4, z5, z6, z7, z8, z9, -⟩ := hSw.g; obtain ⟨bx, ox, ex, z10⟩ := hSw.r.rows.dn _ hi0; cases ex; obtain ⟨bx, ox, ex, z11⟩ := hSw.r.rows.up _ hk0; cases ex; obtain ⟨bx, ox, ex, z12⟩ := hSw.r.rows.dn e he; cases ex; go_split_ands; go_simp <;> first | rfl | omega | (intro h; exfalso; omega)) ?_
          simp only [Act.put, List.setIfInBounds_toArray, List.set_cons_zero, List.set_cons_succ]
          refine takeH 9 (some 58) (.pointer (some ⟨bv, ov + fnd L H v hi m, none⟩)) rfl rfl (by kernel_rfl) (by kernel_rfl) (by kernel_rfl) (fun _ _ _ h => h) (by rfl) hS (fun w hSw => by obtain ⟨-, z0, z1, z2, z3, z4, z5, z6, z7, z8, z9, -⟩ := hSw.g; obtain ⟨bx, ox, ex, z10⟩ := hSw.r.rows.dn _ hi0; cases ex; obtain ⟨bx, ox, ex, z11⟩ := hSw.r.rows.up _ hk0; cases ex; obtain ⟨bx, ox, ex, z12⟩ := hSw.r.rows.dn e he; cases ex; go_split_ands; go_simp <;> first | rfl | omega | (intro h; exfalso; omega)) ?_
          simp only [Act.put, List.setIfInBounds_toArray, List.set_cons_zero, List.set_cons_succ]
          refine takeH 10 (some 59) (.int .i64 (V (fnd L H v hi m))) rfl rfl (by kernel_rfl) (by kernel_rfl) (by kernel_rfl) (fun _ _ _ h => h) (by rfl) hS (fun w hSw => by obtain ⟨-, z0, z1, z2, z3, z4, z5, z6, z7, z8, z9, -⟩ := hSw.g; obtain ⟨bx, ox, ex, z10⟩ := hSw.r.rows.dn _ hi0; cases ex; obtain ⟨bx, ox, ex, z11⟩ := hSw.r.rows.up _ hk0; cases ex; obtain ⟨bx, ox, ex, z12⟩ := hSw.r.rows.dn e he; cases ex; go_split_ands; go_simp <;> first | rfl | omega | (intro h; exfalso; omega)) ?_
          simp only [Act.put, List.setIfInBounds_toArray, List.set_cons_zero, List.set_cons_succ]
          refine takeH 11 (some 60) (.pointer (some ⟨w.heap.size, 4, none⟩)) rfl rfl (by kernel_rfl) (by kernel_rfl) (by kernel_rfl) (fun _ _ _ h => h) (by rfl) hS (fun w hSw => by obtain ⟨-, z0, z1, z2, z3, z4, z5, z6, z7, z8, z9, -⟩ := hSw.g; obtain ⟨bx, ox, ex, z10⟩ := hSw.r.rows.dn _ hi0; cases ex; obtain ⟨bx, ox, ex, z11⟩ := hSw.r.rows.up _ hk0; cases ex; obtain ⟨bx, ox, ex, z12⟩ := hSw.r.rows.dn e he; cases ex; go_split_ands; go_simp <;> first | rfl | omega | (intro h; exfalso; omega)) ?_
          simp only [Act.put, List.setIfInBounds_toArray, List.set_cons_zero, List.set_cons_succ]
          refine takeH 12 (some 61) (.pointer (some ⟨w.heap.size, 4, none⟩)) rfl rfl (by kernel_rfl) (by kernel_rfl) (by kernel_rfl) (fun _ _ _ h => h) (by rfl) hS (fun w hSw => by obtain ⟨-, z0, z1, z2, z3, z4, z5, z6, z7, z8, z9, -⟩ := hSw.g; obtain ⟨bx, ox, ex, z10⟩ := hSw.r.rows.dn _ hi0; cases ex; obtain ⟨bx, ox, ex, z11⟩ := hSw.r.rows.up _ hk0; cases ex; obtain ⟨bx, ox, ex, z12⟩ := hSw.r.rows.dn e he; cases ex; go_split_ands; go_simp <;> first | rfl | omega | (intro h; exfalso; omega)) ?_
          simp only [Act.put, List.setIfInBounds_toArray, List.set_cons_zero, List.set_cons_succ]
          refine takeH 13 (some 62) (.slice (some ⟨bu, ou, none⟩) m ucap) rfl rfl (by kernel_rfl) (by kernel_rfl) (by kernel_rfl) (fun _ _ _ h => h) (by rfl) hS (fun w hSw => by obtain ⟨-, z0, z1, z2, z3, z4, z5, z6, z7, z8, z9, -⟩ := hSw.g; obtain ⟨bx, ox, ex, z10⟩ := hSw.r.rows.dn _ hi0; cases ex; obtain ⟨bx, ox, ex, z11⟩ := hSw.r.rows.up _ hk0; cases ex; obtain ⟨bx, ox, ex, z12⟩ := hSw.r.rows.dn e he; cases ex; go_split_ands; go_simp <;> first | rfl | omega | (intro h; exfalso; omega)) ?_
          simp only [Act.put, List.setIfInBounds_toArray, List.set_cons_zero, List.set_cons_succ]
          refine takeH 14 (some 63) (.int .i64 ((fnd L H v lo m : Nat) : Int)) rfl rfl (by kernel_rfl) (by kernel_rfl) (by kernel_rfl) (fun _ _ _ h => h) (by rfl) hS (fun w hSw => by obtain ⟨-, z0, z1, z2, z3, z4, z5, z6, z7, z8, z9, -⟩ := hSw.g; obtain ⟨bx, ox, ex, z10⟩ := hSw.r.rows.dn _ hi0; cases ex; obtain ⟨bx, ox, ex, z11⟩ := hSw.r.rows.up _ hk0; cases ex; obtain ⟨bx, ox, ex, z12⟩ := hSw.r.rows.dn e he; cases ex; go_split_ands; go_simp <;> first | rfl | omega | (intro h; exfalso; omega)) ?_
          simp only [Act.put, List.setIfInBounds_toArray, List.set_cons_zero, List.set_cons_succ]
          refine takeH 15 (some 64) (.pointer (some ⟨bu, ou + fnd L H v lo m, none⟩)) rfl rfl (by kernel_rfl) (by kernel_rfl) (by kernel_rfl) (fun _ _ _ h => h) (by rfl) hS (fun w hSw => by obtain ⟨-, z0, z1, z2, z3, z4, z5, z6, z7, z8, z9, -⟩ := hSw.g; obtain ⟨bx, ox, ex, z10⟩ := hSw.r.rows.dn _ hi0; cases ex; obtain ⟨bx, ox, ex, z11⟩ := hSw.r.rows.up _ hk0; cases ex; obtain ⟨bx, ox, ex, z12⟩ := hSw.r.rows.dn e he; cases ex; go_split_ands; go_simp <;> first | rfl | omega | (intro h; exfalso; omega)) ?_
          simp only [Act.put, List.setIfInBounds_toArray, List.set_cons_zero, List.set_cons_succ]
          refine takeH 16 (some 65) (.int .i64 (U (fnd L H v lo m))) rfl rfl (by kernel_rfl) (by kernel_rfl) (by kernel_rfl) (fun _ _ _ h => h) (by rfl) hS (fun w hSw => by obtain ⟨-, z0, z1, z2, z3, z4, z5, z6, z7, z8, z9, -⟩ := hSw.g; obtain ⟨bx, ox, ex, z10⟩ := hSw.r.rows.dn _ hi0; cases ex; obtain ⟨bx, ox, ex, z11⟩ := hSw.r.rows.up _ hk0; cases ex; obtain ⟨bx, ox, ex, z12⟩ := hSw.r.rows.dn e he; cases ex; go_split_ands; go_simp <;> first | rfl | omega | (intro h; exfalso; omega)) ?_
          simp only [Act.put, List.setIfInBounds_toArray, List.set_cons_zero, List.set_cons_succ]
          refine takeH 18 (some 67) (.agg #[.int .i64 p, .slice ao n cap, .slice po k pcap, .slice eo m ecap, .slice (some ⟨bu, ou, none⟩) m ucap, .slice (some ⟨bv, ov, none⟩) m vcap, .map (some ma), .map (some me)]) rfl rfl (by kernel_rfl) (by kernel_rfl) (by kernel_rfl) (fun _ _ _ h => h) (by rfl) hS (fun w hSw => by obtain ⟨-, z0, z1, z2, z3, z4, z5, z6, z7, z8, z9, -⟩ := hSw.g; obtain ⟨bx, ox, ex, z10⟩ := hSw.r.rows.dn _ hi0; cases ex; obtain ⟨bx, ox, ex, z11⟩ := hSw.r.rows.up _ hk0; cases ex; obtain ⟨bx, ox, ex, z12⟩ := hSw.r.rows.dn e he; cases ex; go_split_ands; go_simp <;> first | rfl | omega | (intro h; exfalso; omega)) ?_
          simp only [Act.put, List.setIfInBounds_toArray, List.set_cons_zero, List.set_cons_succ]
          refine takeH 19 (some 68) (.pointer (some ⟨w.heap.size + 1, 1, none⟩)) rfl rfl (by kernel_rfl) (by kernel_rfl) (by kernel_rfl) (fun _ _ _ h => h) (by rfl) hS (fun w hSw => by obtain ⟨-, z0, z1, z2, z3, z4, z5, z6, z7, z8, z9, -⟩ := hSw.g; obtain ⟨bx, ox, ex, z10⟩ := hSw.r.rows.dn _ hi0; cases ex; obtain ⟨bx, ox, ex, z11⟩ := hSw.r.rows.up _ hk0; cases ex; obtain ⟨bx, ox, ex, z12⟩ := hSw.r.rows.dn e he; cases ex; go_split_ands; go_simp <;> first | rfl | omega | (intro h; exfalso; omega)) ?_
          simp only [Act.put, List.setIfInBounds_toArray, List.set_cons_zero, List.set_cons_succ]
          refine takeH 20 (some 69) (.bool false) rfl rfl (by kernel_rfl) (by kernel_rfl) (by kernel_rfl) (fun _ _ _ h => h) (by rfl) hS (fun w hSw => by obtain ⟨-, z0, z1, z2, z3, z4, z5, z6, z7, z8, z9, -⟩ := hSw.g; obtain ⟨bx, ox, ex, z10⟩ := hSw.r.rows.dn _ hi0; cases ex; obtain ⟨bx, ox, ex, z11⟩ := hSw.r.rows.up _ hk0; cases ex; obtain ⟨bx, ox, ex, z12⟩ := hSw.r.rows.dn e he; cases ex; go_split_ands; go_simp <;> first | rfl | omega | (intro h; exfalso; omega)) ?_
          simp only [Act.put, List.setIfInBounds_toArray, List.set_cons_zero, List.set_cons_succ]
          refine takeH 22 (some 71) (.pointer (some ⟨w.heap.size + 1, 0, none⟩)) rfl rfl (by kernel_rfl) (by kernel_rfl) (by kernel_rfl) (fun _ _ _ h => h) (by rfl) hS (fun w hSw => by obtain ⟨-, z0, z1, z2, z3, z4, z5, z6, z7, z8, z9, -⟩ := hSw.g; obtain ⟨bx, ox, ex, z10⟩ := hSw.r.rows.dn _ hi0; cases ex; obtain ⟨bx, ox, ex, z11⟩ := hSw.r.rows.up _ hk0; cases ex; obtain ⟨bx, ox, ex, z12⟩ := hSw.r.rows.dn e he; cases ex; go_split_ands; go_simp <;> first | rfl | omega | (intro h; exfalso; omega)) ?_
          simp only [Act.put, List.setIfInBounds_toArray, List.set_cons_zero, List.set_cons_succ]
          refine takeH 23 (some 72) (.int .i64 (e : Int)) rfl rfl (by kernel_rfl) (by kernel_rfl) (by kernel_rfl) (fun _ _ _ h => h) (by rfl) hS (fun w hSw => by obtain ⟨-, z0, z1, z2, z3, z4, z5, z6, z7, z8, z9, -⟩ := hSw.g; obtain ⟨bx, ox, ex, z10⟩ := hSw.r.rows.dn _ hi0; cases ex; obtain ⟨bx, ox, ex, z11⟩ := hSw.r.rows.up _ hk0; cases ex; obtain ⟨bx, ox, ex, z12⟩ := hSw.r.rows.dn e he; cases ex; go_split_ands; go_simp <;> first | rfl | omega | (intro h; exfalso; omega)) ?_
          simp only [Act.put, List.setIfInBounds_toArray, List.set_cons_zero, List.set_cons_succ]
          refine step1H 17 _ rfl (by kernel_rfl) (by rfl) ?_
          go_simp
          refine (plus_any (V (fnd L H v hi m)) (U (fnd L H v lo m)) (D.dn _ hi0).1 (D.dn _ hi0).2 (D.up _ hk0).1 (D.up _ hk0).2 _).mono ?_
          rintro x y1 ⟨rfl, rfl⟩
          refine ⟨hS, ?_⟩
          refine step1H 21 _ rfl (by kernel_rfl) (by rfl) ?_
          go_simp
          refine (weights_any _ _ _ _ _ _ _ _ _ _ _ _ _ _ _ _ false _).mono ?_
          simp only [if_true, if_false, Bool.false_eq_true]
          rintro x y2 ⟨rfl, hy2⟩
          have hS1 : (fun w' => H8 w w' p ao n cap F T G po k pcap P eo m ecap L H (some ⟨bu, ou, none⟩) ucap U (some ⟨bv, ov, none⟩) vcap V ma me e false) y2 := H8.next hS hy2
          refine ⟨hS1, ?_⟩
          refine takeH 24 (some 73) (.pointer (some ⟨bv, ov + e, none⟩)) rfl rfl (by kernel_rfl) (by kernel_rfl) (by kernel_rfl) (fun _ _ _ h => h) (by rfl) hS1 (fun w hSw => by obtain ⟨-, z0, z1, z2, z3, z4, z5, z6, z7, z8, z9, -⟩ := hSw.g; obtain ⟨bx, ox, ex, z10⟩ := hSw.r.rows.dn _ hi0; cases ex; obtain ⟨bx, ox, ex, z11⟩ := hSw.r.rows.up _ hk0; cases ex; obtain ⟨bx, ox, ex, z12⟩ := hSw.r.rows.dn e he; cases ex; go_split_ands; go_simp <;> first | rfl | omega | (intro h; exfalso; omega)) ?_
          simp only [Act.put, List.setIfInBounds_toArray, List.set_cons_zero, List.set_cons_succ]
          refine takeH 25 (some 74) (.int .i64 (V e)) rfl rfl (by kernel_rfl) (by kernel_rfl) (by kernel_rfl) (fun _ _ _ h => h) (by rfl) hS1 (fun w hSw => by obtain ⟨-, z0, z1, z2, z3, z4, z5, z6, z7, z8, z9, -⟩ := hSw.g; obtain ⟨bx, ox, ex, z10⟩ := hSw.r.rows.dn _ hi0; cases ex; obtain ⟨bx, ox, ex, z11⟩ := hSw.r.rows.up _ hk0; cases ex; obtain ⟨bx, ox, ex, z12⟩ := hSw.r.rows.dn e he; cases ex; go_split_ands; go_simp <;> first | rfl | omega | (intro h; exfalso; omega)) ?_
          simp only [Act.put, List.setIfInBounds_toArray, List.set_cons_zero, List.set_cons_succ]
          refine takeH 26 (some 75) (.bool true) rfl rfl (by kernel_rfl) (by kernel_rfl) (by kernel_rfl) (fun _ _ _ h => h) (by rfl) hS1 (fun w hSw => by obtain ⟨-, z0, z1, z2, z3, z4, z5, z6, z7, z8, z9, -⟩ := hSw.g; obtain ⟨bx, ox, ex, z10⟩ := hSw.r.rows.dn _ hi0; cases ex; obtain ⟨bx, ox, ex, z11⟩ := hSw.r.rows.up _ hk0; cases ex; obtain ⟨bx, ox, ex, z12⟩ := hSw.r.rows.dn e he; cases ex; go_split_ands; go_simp <;> first | rfl | omega | (intro h; exfalso; omega)) ?_
          simp only [Act.put, List.setIfInBounds_toArray, List.set_cons_zero, List.set_cons_succ]
          refine takeH 27 (some 76) (.bool true) rfl rfl (by kernel_rfl) (by kernel_rfl) (by kernel_rfl) (fun _ _ _ h => h) (by rfl) hS1 (fun w hSw => by obtain ⟨-, z0, z1, z2, z3, z4, z5, z6, z7, z8, z9, -⟩ := hSw.g; obtain ⟨bx, ox, ex, z10⟩ := hSw.r.rows.dn _ hi0; cases ex; obtain ⟨bx, ox, ex, z11⟩ := hSw.r.rows.up _ hk0; cases ex; obtain ⟨bx, ox, ex, z12⟩ := hSw.r.rows.dn e he; cases ex; go_split_ands; go_simp <;> first | rfl | omega | (intro h; exfalso; omega)) ?_
          simp only [Act.put, List.setIfInBounds_toArray, List.set_cons_zero, List.set_cons_succ]
          refine wpAnyH_done (by kernel_rfl) ?_ _
          have hh : (netOf n F T G P m L H U V).half lo hi false = some v := hnA.trans (Net.fst_step hlt HNO.out (hfit.trans (by simpa using hqq)))
          clear k1 k2 hqd
          have R1 := hS1.r1
          have R2 := hS1.r2
          have bl := hS1.g.bel
          have y0 := R1.cell (j := 0) (by omega)
          have y1 := R1.cell (j := 1) (by omega)
          have y2 := R2.cell (j := 0) (by omega)
          have y3 := R2.cell (j := 1) (by omega)
          have z1 := fun j => R1.frozen j
          have z2 := fun j => R2.frozen j
          simp [st2] at y0 y1 y2 y3
          go_wp2
          have u1 := (((R1.set 0 (.int .i64 ((fnd L H v hi m : Nat)))).set 1 (.bool false)).other (c := w.heap.size + 1 + 1 + 1) (i := 0) (by omega) (.int .i64 ((fnd L H v lo m : Nat)))).other (c := w.heap.size + 1 + 1 + 1) (i := 1) (by omega) (.bool true)
          have u2 := ((((R2.other (c := w.heap.size + 1 + 1) (i := 0) (by omega) (.int .i64 ((fnd L H v hi m : Nat)))).other (c := w.heap.size + 1 + 1) (i := 1) (by omega) (.bool false)).set 0 (.int .i64 ((fnd L H v lo m : Nat)))).set 1 (.bool true))
          have t0 := u1.cell (j := 0) (by omega)
          have t1 := u1.cell (j := 1) (by omega)
          have t2 := u2.cell (j := 0) (by omega)
          have t3 := u2.cell (j := 1) (by omega)
          simp at t0 t1 t2 t3
          exact bodyPost_ret (v := .tuple #[.agg #[.int .i64 ((fnd L H v hi m : Nat)), .bool false], .agg #[.int .i64 ((fnd L H v lo m : Nat)), .bool true], .bool true]) (by simp [results, Tryz.results115, go_sem, t0, t1, t2, t3]) rfl ⟨by first | (rw [hh]; rfl) | (rw [hnA] at hh; rw [hh]; rfl), (((bl.setCell (p := ⟨w.heap.size + 1 + 1, 0, none⟩) (by simp; omega) _).setCell (p := ⟨w.heap.size + 1 + 1, 1, none⟩) (by simp; omega) _).setCell (p := ⟨w.heap.size + 1 + 1 + 1, 0, none⟩) (by simp; omega) _).setCell (p := ⟨w.heap.size + 1 + 1 + 1, 1, none⟩) (by simp; omega) _⟩
        · have hqd : (min 1000000000000 (V (fnd L H v hi m) + U (fnd L H v lo m)) == V e) = false := by simpa [addF] using hqq
          have hf := hcont (by rw [hfit]; simpa using hqq)
          clear hcont n2 n4
          go_wp2
          refine wp_region_held_drew (S := fun w' => H8 w w' p ao n cap F T G po k pcap P eo m ecap L H (some ⟨bu, ou, none⟩) ucap U (some ⟨bv, ov, none⟩) vcap V ma me e false) (by kernel_rfl) (K2.next (Below.refl _ _).drew) (fun hS => ?_)
          refine takeH 0 (some 49) (.bool true) rfl rfl (by kernel_rfl) (by kernel_rfl) (by kernel_rfl) (fun _ _ _ h => h) (by rfl) hS (fun w hSw => by obtain ⟨-, z0, z1, z2, z3, z4, z5, z6, z7, z8, z9, -⟩ := hSw.g; obtain ⟨bx, ox, ex, z10⟩ := hSw.r.rows.dn _ hi0; cases ex; obtain ⟨bx, ox, ex, z11⟩ := hSw.r.rows.up _ hk0; cases ex; obtain ⟨bx, ox, ex, z12⟩ := hSw.r.rows.dn e he; cases ex; go_split_ands; go_simp <;> first | rfl | omega | (intro h; exfalso; omega)) ?_
          simp only [Act.put, List.setIfInBounds_toArray, List.set_cons_zero, List.set_cons_succ]
          refine takeH 1 (some 50) (.bool true) rfl rfl (by kernel_rfl) (by kernel_rfl) (by kernel_rfl) (fun _ _ _ h => h) (by rfl) hS (fun w hSw => by obtain ⟨-, z0, z1, z2, z3, z4, z5, z6, z7, z8, z9, -⟩ := hSw.g; obtain ⟨bx, ox, ex, z10⟩ := hSw.r.rows.dn _ hi0; cases ex; obtain ⟨bx, ox, ex, z11⟩ := hSw.r.rows.up _ hk0; cases ex; obtain ⟨bx, ox, ex, z12⟩ := hSw.r.rows.dn e he; cases ex; go_split_ands; go_simp <;> first | rfl | omega | (intro h; exfalso; omega)) ?_
          simp only [Act.put, List.setIfInBounds_toArray, List.set_cons_zero, List.set_cons_succ]
          refine takeH 2 (some 51) (.bool true) rfl rfl (by kernel_rfl) (by kernel_rfl) (by kernel_rfl) (fun _ _ _ h => h) (by rfl) hS (fun w hSw => by obtain ⟨-, z0, z1, z2, z3, z4, z5, z6, z7, z8, z9, -⟩ := hSw.g; obtain ⟨bx, ox, ex, z10⟩ := hSw.r.rows.dn _ hi0; cases ex; obtain ⟨bx, ox, ex, z11⟩ := hSw.r.rows.up _ hk0; cases ex; obtain ⟨bx, ox, ex, z12⟩ := hSw.r.rows.dn e he; cases ex; go_split_ands; go_simp <;> first | rfl | omega | (intro h; exfalso; omega)) ?_
          simp only [Act.put, List.setIfInBounds_toArray, List.set_cons_zero, List.set_cons_succ]
          refine takeH 3 (some 52) (.bool true) rfl rfl (by kernel_rfl) (by kernel_rfl) (by kernel_rfl) (fun _ _ _ h => h) (by rfl) hS (fun w hSw => by obtain ⟨-, z0, z1, z2, z3, z4, z5, z6, z7, z8, z9, -⟩ := hSw.g; obtain ⟨bx, ox, ex, z10⟩ := hSw.r.rows.dn _ hi0; cases ex; obtain ⟨bx, ox, ex, z11⟩ := hSw.r.rows.up _ hk0; cases ex; obtain ⟨bx, ox, ex, z12⟩ := hSw.r.rows.dn e he; cases ex; go_split_ands; go_simp <;> first | rfl | omega | (intro h; exfalso; omega)) ?_
          simp only [Act.put, List.setIfInBounds_toArray, List.set_cons_zero, List.set_cons_succ]
          refine takeH 4 (some 53) (.bool true) rfl rfl (by kernel_rfl) (by kernel_rfl) (by kernel_rfl) (fun _ _ _ h => h) (by rfl) hS (fun w hSw => by obtain ⟨-, z0, z1, z2, z3, z4, z5, z6, z7, z8, z9, -⟩ := hSw.g; obtain ⟨bx, ox, ex, z10⟩ := hSw.r.rows.dn _ hi0; cases ex; obtain ⟨bx, ox, ex, z11⟩ := hSw.r.rows.up _ hk0; cases ex; obtain ⟨bx, ox, ex, z12⟩ := hSw.r.rows.dn e he; cases ex; go_split_ands; go_simp <;> first | rfl | omega | (intro h; exfalso; omega)) ?_
          simp only [Act.put, List.setIfInBounds_toArray, List.set_cons_zero, List.set_cons_succ]
          refine takeH 5 (some 54) (.pointer (some ⟨w.heap.size, 4, none⟩)) rfl rfl (by kernel_rfl) (by kernel_rfl) (by kernel_rfl) (fun _ _ _ h => h) (by rfl) hS (fun w hSw => by obtain ⟨-, z0, z1, z2, z3, z4, z5, z6, z7, z8, z9, -⟩ := hSw.g; obtain ⟨bx, ox, ex, z10⟩ := hSw.r.rows.dn _ hi0; cases ex; obtain ⟨bx, ox, ex, z11⟩ := hSw.r.rows.up _ hk0; cases ex; obtain ⟨bx, ox, ex, z12⟩ := hSw.r.rows.dn e he; cases ex; go_split_ands; go_simp <;> first | rfl | omega | (intro h; exfalso; omega)) ?_
          simp only [Act.put, List.setIfInBounds_toArray, List.set_cons_zero, List.set_cons_succ]
          refine takeH 6 (some 55) (.pointer (some ⟨w.heap.size, 5, none⟩)) rfl rfl (by kernel_rfl) (by kernel_rfl) (by kernel_rfl) (fun _ _ _ h => h) (by rfl) hS (fun w hSw => by obtain ⟨-, z0, z1, z2, z3, z4, z5, z6, z7, z8, z9, -⟩ := hSw.g; obtain ⟨bx, ox, ex, z10⟩ := hSw.r.rows.dn _ hi0; cases ex; obtain ⟨bx, ox, ex, z11⟩ := hSw.r.rows.up _ hk0; cases ex; obtain ⟨bx, ox, ex, z12⟩ := hSw.r.rows.dn e he; cases ex; go_split_ands; go_simp <;> first | rfl | omega | (intro h; exfalso; omega)) ?_
          simp only [Act.put, List.setIfInBounds_toArray, List.set_cons_zero, List.set_cons_succ]
          refine takeH 7 (some 56) (.slice (some ⟨bv, ov, none⟩) m vcap) rfl rfl (by kernel_rfl) (by kernel_rfl) (by kernel_rfl) (fun _ _ _ h => h) (by rfl) hS (fun w hSw => by obtain ⟨-, z0, z1, z2, z3, z4, z5, z6, z7, z8, z9, -⟩ := hSw.g; obtain ⟨bx, ox, ex, z10⟩ := hSw.r.rows.dn _ hi0; cases ex; obtain ⟨bx, ox, ex, z11⟩ := hSw.r.rows.up _ hk0; cases ex; obtain ⟨bx, ox, ex, z12⟩ := hSw.r.rows.dn e he; cases ex; go_split_ands; go_simp <;> first | rfl | omega | (intro h; exfalso; omega)) ?_
          simp only [Act.put, List.setIfInBounds_toArray, List.set_cons_zero, List.set_cons_succ]
          refine takeH 8 (some 57) (.int .i64 ((fnd L H v hi m : Nat) : Int)) rfl rfl (by kernel_rfl) (by kernel_rfl) (by kernel_rfl) (fun _ _ _ h => h) (by rfl) hS (fun w hSw => by obtain ⟨-, z0, z1, z2, z3, z4, z5, z6, z7, z8, z9, -⟩ := hSw.g; obtain ⟨bx, ox, ex, z10⟩ := hSw.r.rows.dn _ hi0; cases ex; obtain ⟨bx, ox, ex, z11⟩ := hSw.r.rows.up _ hk0; cases ex; obtain ⟨bx, ox, ex, z12⟩ := hSw.r.rows.dn e he; cases ex; go_split_ands; go_simp <;> first | rfl | omega | (intro h; exfalso; omega)) ?_
          simp only [Act.put, List.setIfInBounds_toArray, List.set_cons_zero, List.set_cons_succ]
          refine takeH 9 (some 58) (.pointer (some ⟨bv, ov + fnd L H v hi m, none⟩)) rfl rfl (by kernel_rfl) (by kernel_rfl) (by kernel_rfl) (fun _ _ _ h => h) (by rfl) hS (fun w hSw => by obtain ⟨-, z0, z1, z2, z3, z4, z5, z6, z7, z8, z9, -⟩ := hSw.g; obtain ⟨bx, ox, ex, z10⟩ := hSw.r.rows.dn _ hi0; cases ex; obtain ⟨bx, ox, ex, z11⟩ := hSw.r.rows.up _ hk0; cases ex; obtain ⟨bx, ox, ex, z12⟩ := hSw.r.rows.dn e he; cases ex; go_split_ands; go_simp <;> first | rfl | omega | (intro h; exfalso; omega)) ?_
          simp only [Act.put, List.setIfInBounds_toArray, List.set_cons_zero, List.set_cons_succ]
          refine takeH 10 (some 59) (.int .i64 (V (fnd L H v hi m))) rfl rfl (by kernel_rfl) (by kernel_rfl) (by kernel_rfl) (fun _ _ _ h => h) (by rfl) hS (fun w hSw => by obtain ⟨-, z0, z1, z2, z3, z4, z5, z6, z7, z8, z9, -⟩ := hSw.g; obtain ⟨bx, ox, ex, z10⟩ := hSw.r.rows.dn _ hi0; cases ex; obtain ⟨bx, ox, ex, z11⟩ := hSw.r.rows.up _ hk0; cases ex; obtain ⟨bx, ox, ex, z12⟩ := hSw.r.rows.dn e he; cases ex; go_split_ands; go_simp <;> first | rfl | omega | (intro h; exfalso; omega)) ?_
          simp only [Act.put, List.setIfInBounds_toArray, List.set_cons_zero, List.set_cons_succ]
          refine takeH 11 (some 60) (.pointer (some ⟨w.heap.size, 4, none⟩)) rfl rfl (by kernel_rfl) (by kernel_rfl) (by kernel_rfl) (fun _ _ _ h => h) (by rfl) hS (fun w hSw => by obtain ⟨-, z0, z1, z2, z3, z4, z5, z6, z7, z8, z9, -⟩ := hSw.g; obtain ⟨bx, ox, ex, z10⟩ := hSw.r.rows.dn _ hi0; cases ex; obtain ⟨bx, ox, ex, z11⟩ := hSw.r.rows.up _ hk0; cases ex; obtain ⟨bx, ox, ex, z12⟩ := hSw.r.rows.dn e he; cases ex; go_split_ands; go_simp <;> first | rfl | omega | (intro h; exfalso; omega)) ?_
          simp only [Act.put, List.setIfInBounds_toArray, List.set_cons_zero, List.set_cons_succ]
          refine takeH 12 (some 61) (.pointer (some ⟨w.heap.size, 4, none⟩)) rfl rfl (by kernel_rfl) (by kernel_rfl) (by kernel_rfl) (fun _ _ _ h => h) (by rfl) hS (fun w hSw => by obtain ⟨-, z0, z1, z2, z3, z4, z5, z6, z7, z8, z9, -⟩ := hSw.g; obtain ⟨bx, ox, ex, z10⟩ := hSw.r.rows.dn _ hi0; cases ex; obtain ⟨bx, ox, ex, z11⟩ := hSw.r.rows.up _ hk0; cases ex; obtain ⟨bx, ox, ex, z12⟩ := hSw.r.rows.dn e he; cases ex; go_split_ands; go_simp <;> first | rfl | omega | (intro h; exfalso; omega)) ?_
          simp only [Act.put, List.setIfInBounds_toArray, List.set_cons_zero, List.set_cons_succ]
          refine takeH 13 (some 62) (.slice (some ⟨bu, ou, none⟩) m ucap) rfl rfl (by kernel_rfl) (by kernel_rfl) (by kernel_rfl) (fun _ _ _ h => h) (by rfl) hS (fun w hSw => by obtain ⟨-, z0, z1, z2, z3, z4, z5, z6, z7, z8, z9, -⟩ := hSw.g; obtain ⟨bx, ox, ex, z10⟩ := hSw.r.rows.dn _ hi0; cases ex; obtain ⟨bx, ox, ex, z11⟩ := hSw.r.rows.up _ hk0; cases ex; obtain ⟨bx, ox, ex, z12⟩ := hSw.r.rows.dn e he; cases ex; go_split_ands; go_simp <;> first | rfl | omega | (intro h; exfalso; omega)) ?_
          simp only [Act.put, List.setIfInBounds_toArray, List.set_cons_zero, List.set_cons_succ]
          refine takeH 14 (some 63) (.int .i64 ((fnd L H v lo m : Nat) : Int)) rfl rfl (by kernel_rfl) (by kernel_rfl) (by kernel_rfl) (fun _ _ _ h => h) (by rfl) hS (fun w hSw => by obtain ⟨-, z0, z1, z2, z3, z4, z5, z6, z7, z8, z9, -⟩ := hSw.g; obtain ⟨bx, ox, ex, z10⟩ := hSw.r.rows.dn _ hi0; cases ex; obtain ⟨bx, ox, ex, z11⟩ := hSw.r.rows.up _ hk0; cases ex; obtain ⟨bx, ox, ex, z12⟩ := hSw.r.rows.dn e he; cases ex; go_split_ands; go_simp <;> first | rfl | omega | (intro h; exfalso; omega)) ?_
          simp only [Act.put, List.setIfInBounds_toArray, List.set_cons_zero, List.set_cons_succ]
          refine takeH 15 (some 64) (.pointer (some ⟨bu, ou + fnd L H v lo m, none⟩)) rfl rfl (by kernel_rfl) (by kernel_rfl) (by kernel_rfl) (fun _ _ _ h => h) (by rfl) hS (fun w hSw => by obtain ⟨-, z0, z1, z2, z3, z4, z5, z6, z7, z8, z9, -⟩ := hSw.g; obtain ⟨bx, ox, ex, z10⟩ := hSw.r.rows.dn _ hi0; cases ex; obtain ⟨bx, ox, ex, z11⟩ := hSw.r.rows.up _ hk0; cases ex; obtain ⟨bx, ox, ex, z12⟩ := hSw.r.rows.dn e he; cases ex; go_split_ands; go_simp <;> first | rfl | omega | (intro h; exfalso; omega)) ?_
          simp only [Act.put, List.setIfInBounds_toArray, List.set_cons_zero, List.set_cons_succ]
          refine takeH 16 (some 65) (.int .i64 (U (fnd L H v lo m))) rfl rfl (by kernel_rfl) (by kernel_rfl) (by kernel_rfl) (fun _ _ _ h => h) (by rfl) hS (fun w hSw => by obtain ⟨-, z0, z1, z2, z3, z4, z5, z6, z7, z8, z9, -⟩ := hSw.g; obtain ⟨bx, ox, ex, z10⟩ := hSw.r.rows.dn _ hi0; cases ex; obtain ⟨bx, ox, ex, z11⟩ := hSw.r.rows.up _ hk0; cases ex; obtain ⟨bx, ox, ex, z12⟩ := hSw.r.rows.dn e he; cases ex; go_split_ands; go_simp <;> first | rfl | omega | (intro h; exfalso; omega)) ?_
          simp only [Act.put, List.setIfInBounds_toArray, List.set_cons_zero, List.set_cons_succ]
          refine takeH 18 (some 67) (.agg #[.int .i64 p, .slice ao n cap, .slice po k pcap, .slice eo m ecap, .slice (some ⟨bu, ou, none⟩) m ucap, .slice (some ⟨bv, ov, none⟩) m vcap, .map (some ma), .map (some me)]) rfl rfl (by kernel_rfl) (by kernel_rfl) (by kernel_rfl) (fun _ _ _ h => h) (by rfl) hS (fun w hSw => by obtain ⟨-, z0, z1, z2, z3, z4, z5, z6, z7, z8, z9, -⟩ := hSw.g; obtain ⟨bx, ox, ex, z10⟩ := hSw.r.rows.dn _ hi0; cases ex; obtain ⟨bx, ox, ex, z11⟩ := hSw.r.rows.up _ hk0; cases ex; obtain ⟨bx, ox, ex, z12⟩ := hSw.r.rows.dn e he; cases ex; go_split_ands; go_simp <;> first | rfl | omega | (intro h; exfalso; omega)) ?_
          simp only [Act.put, List.setIfInBounds_toArray, List.set_cons_zero, List.set_cons_succ]
          refine takeH 19 (some 68) (.pointer (some ⟨w.heap.size + 1, 1, none⟩)) rfl rfl (by kernel_rfl) (by kernel_rfl) (by kernel_rfl) (fun _ _ _ h => h) (by rfl) hS (fun w hSw => by obtain ⟨-, z0, z1, z2, z3, z4, z5, z6, z7, z8, z9, -⟩ := hSw.g; obtain ⟨bx, ox, ex, z10⟩ := hSw.r.rows.dn _ hi0; cases ex; obtain ⟨bx, ox, ex, z11⟩ := hSw.r.rows.up _ hk0; cases ex; obtain ⟨bx, ox, ex, z12⟩ := hSw.r.rows.dn e he; cases ex; go_split_ands; go_simp <;> first | rfl | omega | (intro h; exfalso; omega)) ?_
          simp only [Act.put, List.setIfInBounds_toArray, List.set_cons_zero, List.set_cons_succ]
          refine takeH 20 (some 69) (.bool false) rfl rfl (by kernel_rfl) (by kernel_rfl) (by kernel_rfl) (fun _ _ _ h => h) (by rfl) hS (fun w hSw => by obtain ⟨-, z0, z1, z2, z3, z4, z5, z6, z7, z8, z9, -⟩ := hSw.g; obtain ⟨bx, ox, ex, z10⟩ := hSw.r.rows.dn _ hi0; cases ex; obtain ⟨bx, ox, ex, z11⟩ := hSw.r.rows.up _ hk0; cases ex; obtain ⟨bx, ox, ex, z12⟩ := hSw.r.rows.dn e he; cases ex; go_split_ands; go_simp <;> first | rfl | omega | (intro h; exfalso; omega)) ?_
          simp only [Act.put, List.setIfInBounds_toArray, List.set_cons_zero, List.set_cons_succ]
          refine takeH 22 (some 71) (.pointer (some ⟨w.heap.size + 1, 0, none⟩)) rfl rfl (by kernel_rfl) (by kernel_rfl) (by kernel_rfl) (fun _ _ _ h => h) (by rfl) hS (fun w hSw => by obtain ⟨-, z0, z1, z2, z3, z4, z5, z6, z7, z8, z9, -⟩ := hSw.g; obtain ⟨bx, ox, ex, z10⟩ := hSw.r.rows.dn _ hi0; cases ex; obtain ⟨bx, ox, ex, z11⟩ := hSw.r.rows.up _ hk0; cases ex; obtain ⟨bx, ox, ex, z12⟩ := hSw.r.rows.dn e he; cases ex; go_split_ands; go_simp <;> first | rfl | omega | (intro h; exfalso; omega)) ?_
          simp only [Act.put, List.setIfInBounds_toArray, List.set_cons_zero, List.set_cons_succ]
          refine takeH 23 (some 72) (.int .i64 (e : Int)) rfl rfl (by kernel_rfl) (by kernel_rfl) (by kernel_rfl) (fun _ _ _ h => h) (by rfl) hS (fun w hSw => by obtain ⟨-, z0, z1, z2, z3, z4, z5, z6, z7, z8, z9, -⟩ := hSw.g; obtain ⟨bx, ox, ex, z10⟩ := hSw.r.rows.dn _ hi0; cases ex; obtain ⟨bx, ox, ex, z11⟩ := hSw.r.rows.up _ hk0; cases ex; obtain ⟨bx, ox, ex, z12⟩ := hSw.r.rows.dn e he; cases ex; go_split_ands; go_simp <;> first | rfl | omega | (intro h; exfalso; omega)) ?_
          simp only [Act.put, List.setIfInBounds_toArray, List.set_cons_zero, List.set_cons_succ]
          refine step1H 17 _ rfl (by kernel_rfl) (by rfl) ?_
          go_simp
          refine (plus_any (V (fnd L H v hi m)) (U (fnd L H v lo m)) (D.dn _ hi0).1 (D.dn _ hi0).2 (D.up _ hk0).1 (D.up _ hk0).2 _).mono ?_
          rintro x y1 ⟨rfl, rfl⟩
          refine ⟨hS, ?_⟩
          refine step1H 21 _ rfl (by kernel_rfl) (by rfl) ?_
          go_simp
          refine (weights_any _ _ _ _ _ _ _ _ _ _ _ _ _ _ _ _ false _).mono ?_
          simp only [if_true, if_false, Bool.false_eq_true]
          rintro x y2 ⟨rfl, hy2⟩
          have hS1 : (fun w' => H8 w w' p ao n cap F T G po k pcap P eo m ecap L H (some ⟨bu, ou, none⟩) ucap U (some ⟨bv, ov, none⟩) vcap V ma me e false) y2 := H8.next hS hy2
          refine ⟨hS1, ?_⟩
          refine takeH 24 (some 73) (.pointer (some ⟨bv, ov + e, none⟩)) rfl rfl (by kernel_rfl) (by kernel_rfl) (by kernel_rfl) (fun _ _ _ h => h) (by rfl) hS1 (fun w hSw => by obtain ⟨-, z0, z1, z2, z3, z4, z5, z6, z7, z8, z9, -⟩ := hSw.g; obtain ⟨bx, ox, ex, z10⟩ := hSw.r.rows.dn _ hi0; cases ex; obtain ⟨bx, ox, ex, z11⟩ := hSw.r.rows.up _ hk0; cases ex; obtain ⟨bx, ox, ex, z12⟩ := hSw.r.rows.dn e he; cases ex; go_split_ands; go_simp <;> first | rfl | omega | (intro h; exfalso; omega)) ?_
          simp only [Act.put, List.setIfInBounds_toArray, List.set_cons_zero, List.set_cons_succ]
          refine takeH 25 (some 74) (.int .i64 (V e)) rfl rfl (by kernel_rfl) (by kernel_rfl) (by kernel_rfl) (fun _ _ _ h => h) (by rfl) hS1 (fun w hSw => by obtain ⟨-, z0, z1, z2, z3, z4, z5, z6, z7, z8, z9, -⟩ := hSw.g; obtain ⟨bx, ox, ex, z10⟩ := hSw.r.rows.dn _ hi0; cases ex; obtain ⟨bx, ox, ex, z11⟩ := hSw.r.rows.up _ hk0; cases ex; obtain ⟨bx, ox, ex, z12⟩ := hSw.r.rows.dn e he; cases ex; go_split_ands; go_simp <;> first | rfl | omega | (intro h; exfalso; omega)) ?_
          simp only [Act.put, List.setIfInBounds_toArray, List.set_cons_zero, List.set_cons_succ]
          refine takeH 26 (some 75) (.bool false) rfl rfl (by kernel_rfl) (by kernel_rfl) (by kernel_rfl) (fun _ _ _ h => h) (by rfl) hS1 (fun w hSw => by obtain ⟨-, z0, z1, z2, z3, z4, z5, z6, z7, z8, z9, -⟩ := hSw.g; obtain ⟨bx, ox, ex, z10⟩ := hSw.r.rows.dn _ hi0; cases ex; obtain ⟨bx, ox, ex, z11⟩ := hSw.r.rows.up _ hk0; cases ex; obtain ⟨bx, ox, ex, z12⟩ := hSw.r.rows.dn e he; cases ex; go_split_ands; go_simp <;> first | rfl | omega | (intro h; exfalso; omega)) ?_
          simp only [Act.put, List.setIfInBounds_toArray, List.set_cons_zero, List.set_cons_succ]
          refine takeH 27 (some 76) (.bool false) rfl rfl (by kernel_rfl) (by kernel_rfl) (by kernel_rfl) (fun _ _ _ h => h) (by rfl) hS1 (fun w hSw => by obtain ⟨-, z0, z1, z2, z3, z4, z5, z6, z7, z8, z9, -⟩ := hSw.g; obtain ⟨bx, ox, ex, z10⟩ := hSw.r.rows.dn _ hi0; cases ex; obtain ⟨bx, ox, ex, z11⟩ := hSw.r.rows.up _ hk0; cases ex; obtain ⟨bx, ox, ex, z12⟩ := hSw.r.rows.dn e he; cases ex; go_split_ands; go_simp <;> first | rfl | omega | (intro h; exfalso; omega)) ?_
          simp only [Act.put, List.setIfInBounds_toArray, List.set_cons_zero, List.set_cons_succ]
          refine wpAnyH_done (by kernel_rfl) ?_ _
          go_wp2
          go_roundw
          case rel => exact ⟨v + 1, by omega, by go_num, hf, hS1⟩
          case measure => simp [intOf]; omega
    · go_enter Tryz.func115, Tryz.ntmps115
      go_wp2_with fail
      generalize ((((w.alloc (.cells #[.int .i64 p, .slice ao n cap, .slice po k pcap, .slice eo m ecap, .slice (some ⟨bu, ou, none⟩) m ucap, .slice (some ⟨bv, ov, none⟩) m vcap, .map (some ma), .map (some me)] 98)).alloc (.cells #[.int .i64 (e : Int), .bool true] 104)).alloc (.cells #[.int .i64 0, .bool false] 104)).alloc (.cells #[.int .i64 0, .bool false] 104)) = W at K0 ⊢
      refine (HA _ K0.r).mono ?_
      rintro x w1 ⟨rfl, hb1⟩
      have K1 := K0.next hb1
      have y0 := K1.g.s0
      have y1 := K1.g.s1
      have x0 := K1.g.c0
      have x1 := K1.g.c1
      have x2 := K1.g.c2
      have x3 := K1.g.c3
      have x4 := K1.g.c4
      have x5 := K1.g.c5
      have x6 := K1.g.c6
      have x7 := K1.g.c7
      go_wp2_with fail
      refine (ranks_any _ _ _ _ _ _ _ _ _ _ _ _ _ _ _ _ L H e true he D.hm _ K1.r.rows.eds).mono ?_
      simp only [if_true, if_false, Bool.false_eq_true]
      rintro x w2 ⟨rfl, hb2⟩
      have K2 := K1.next hb2
      clear y0 y1 x0 x1 x2 x3 x4 x5 x6 x7 K0 K1 hb1 hb2 HA
      rw [hlo, hhi]
      have l0 : (lo : Int) < (hi : Int) := by omega
      have l0' : ¬ (hi : Int) < (lo : Int) := by omega
      have m1 : min (lo : Int) (hi : Int) = lo := by omega
      have m2 : min (hi : Int) (lo : Int) = lo := by omega
      go_wp2
      go_loopw [28] (fun x wr => ∃ v : Nat, v ≤ lo ∧ x = .int .i64 v ∧ (∀ t, t < v → (netOf n F T G P m L H U V).fit lo hi true t = false) ∧ H8 w wr p ao n cap F T G po k pcap P eo m ecap L H (some ⟨bu, ou, none⟩) ucap U (some ⟨bv, ov, none⟩) vcap V ma me e true) (fun x _ => lo - (intOf x).toNat)
      case atStart => exact ⟨0, Nat.zero_le _, rfl, fun t ht => by omega, K2⟩
      case round =>
        clear K2
        obtain ⟨v, hv, rfl, hno, K2⟩ := hrel
        have HNO : Hid (∀ t, t < v → (netOf n F T G P m L H U V).fit lo hi true t = false) := hno
        clear hno
        by_cases hlt : v < lo
        rotate_left
        · obtain rfl : v = lo := by omega
          have hh : (netOf n F T G P m L H U V).half v hi true = none := by rw [hnA]; exact Net.fst_end HNO.out
          have R1 := K2.r1
          have R2 := K2.r2
          have bl := K2.g.bel
          have y0 := R1.cell (j := 0) (by omega)
          have y1 := R1.cell (j := 1) (by omega)
          have y2 := R2.cell (j := 0) (by omega)
          have y3 := R2.cell (j := 1) (by omega)
          have z1 := fun j => R1.frozen j
          have z2 := fun j => R2.frozen j
          simp [st2] at y0 y1 y2 y3
          go_wp2
          have u1 := (((R1.set 0 (.int .i64 (0))).set 1 (.bool false)).other (c := w.heap.size + 1 + 1 + 1) (i := 0) (by omega) (.int .i64 (0))).other (c := w.heap.size + 1 + 1 + 1) (i := 1) (by omega) (.bool false)
          have u2 := ((((R2.other (c := w.heap.size + 1 + 1) (i := 0) (by omega) (.int .i64 (0))).other (c := w.heap.size + 1 + 1) (i := 1) (by omega) (.bool false)).set 0 (.int .i64 (0))).set 1 (.bool false))
          have t0 := u1.cell (j := 0) (by omega)
          have t1 := u1.cell (j := 1) (by omega)
          have t2 := u2.cell (j := 0) (by omega)
          have t3 := u2.cell (j := 1) (by omega)
          simp at t0 t1 t2 t3
          exact bodyPost_ret (v := .tuple #[.agg #[.int .i64 (0), .bool false], .agg #[.int .i64 (0), .bool false], .bool false]) (by simp [results, Tryz.results115, go_sem, t0, t1, t2, t3]) rfl ⟨by first | (rw [hh]; rfl) | (rw [hnA] at hh; rw [hh]; rfl), (((bl.setCell (p := ⟨w.heap.size + 1 + 1, 0, none⟩) (by simp; omega) _).setCell (p := ⟨w.heap.size + 1 + 1, 1, none⟩) (by simp; omega) _).setCell (p := ⟨w.heap.size + 1 + 1 + 1, 0, none⟩) (by simp; omega) _).setCell (p := ⟨w.heap.size + 1 + 1 + 1, 1, none⟩) (by simp; omega) _⟩
        have l7 : (v : Int) < (lo : Int) := by omega
        have hk30 := D.hk
        have wv := wf_small' (x := v) (by omega)
        have wl := wf_small' (x := lo) (by omega)
        have wh := wf_small' (x := hi) (by omega)
        have x7 := K2.g.c7
        have k1 := look_edges0 K2.r.em wv wl
        have k2 := look_edges0 K2.r.em wv wh
        obtain ⟨n1, n2⟩ := enums_net hq D.wfE wv wl
        obtain ⟨n3, n4⟩ := enums_net hq D.wfE wv wh
        rw [n1] at k1
        rw [n3] at k2
        generalize litI ((enums L H m).atKey (ekl (v : Int) (lo : Int)) (.lit (.int .i64 0))) = X1 at k1 n2
        generalize litI ((enums L H m).atKey (ekl (v : Int) (hi : Int)) (.lit (.int .i64 0))) = X2 at k2 n4
        clear n1 n3
        have hcont : ∀ h : (netOf n F T G P m L H U V).fit lo hi true v = false, ∀ t, t < v + 1 → (netOf n F T G P m L H U V).fit lo hi true t = false := fun h t ht => by
          by_cases e : t = v
          · subst e; exact h
          · exact HNO.out t (by omega)
        cases hs1 : hsB m L H v lo with
        | false =>
          have hf := hcont (by simp [Net.fit, netOf, frR, toR, hs1])
          rw [hs1] at k1
          rw [show X1 = X1 from rfl] at k1
          clear hcont n4
          go_wp2
          refine wp_region_held_drew (S := fun w' => H8 w w' p ao n cap F T G po k pcap P eo m ecap L H (some ⟨bu, ou, none⟩) ucap U (some ⟨bv, ov, none⟩) vcap V ma me e true) (by kernel_rfl) (K2.next (Below.refl _ _).drew) (fun hS => ?_)
          refine takeH 0 (some 49) (.bool false) rfl rfl (by kernel_rfl) (by kernel_rfl) (by kernel_rfl) (fun _ _ _ h => h) (by rfl) hS (fun w hSw => by obtain ⟨-, z0, z1, z2, z3, z4, z5, z6, z7, z8, z9, -⟩ := hSw.g; go_split_ands; go_simp <;> first | rfl | omega | (intro h; exfalso; omega)) ?_
          simp only [Act.put, List.setIfInBounds_toArray, List.set_cons_zero, List.set_cons_succ]
          refine takeH 1 (some 50) (.bool false) rfl rfl (by kernel_rfl) (by kernel_rfl) (by kernel_rfl) (fun _ _ _ h => h) (by rfl) hS (fun w hSw => by obtain ⟨-, z0, z1, z2, z3, z4, z5, z6, z7, z8, z9, -⟩ := hSw.g; go_split_ands; go_simp <;> first | rfl | omega | (intro h; exfalso; omega)) ?_
          simp only [Act.put, List.setIfInBounds_toArray, List.set_cons_zero, List.set_cons_succ]
          refine skipH 2 (some 51) rfl rfl (by kernel_rfl) (by kernel_rfl) (by kernel_rfl) (fun _ _ _ h => h) (by rfl) hS ?_
          simp only [Act.put, List.setIfInBounds_toArray, List.set_cons_zero, List.set_cons_succ]
          refine takeH 3 (some 52) (.bool false) rfl rfl (by kernel_rfl) (by kernel_rfl) (by kernel_rfl) (fun _ _ _ h => h) (by rfl) hS (fun w hSw => by obtain ⟨-, z0, z1, z2, z3, z4, z5, z6, z7, z8, z9, -⟩ := hSw.g; go_split_ands; go_simp <;> first | rfl | omega | (intro h; exfalso; omega)) ?_
          simp only [Act.put, List.setIfInBounds_toArray, List.set_cons_zero, List.set_cons_succ]
          refine takeH 4 (some 53) (.bool false) rfl rfl (by kernel_rfl) (by kernel_rfl) (by kernel_rfl) (fun _ _ _ h => h) (by rfl) hS (fun w hSw => by obtain ⟨-, z0, z1, z2, z3, z4, z5, z6, z7, z8, z9, -⟩ := hSw.g; go_split_ands; go_simp <;> first | rfl | omega | (intro h; exfalso; omega)) ?_
          simp only [Act.put, List.setIfInBounds_toArray, List.set_cons_zero, List.set_cons_succ]
          refine skipH 5 (some 54) rfl rfl (by kernel_rfl) (by kernel_rfl) (by kernel_rfl) (fun _ _ _ h => h) (by rfl) hS ?_
          simp only [Act.put, List.setIfInBounds_toArray, List.set_cons_zero, List.set_cons_succ]
          refine skipH 6 (some 55) rfl rfl (by kernel_rfl) (by kernel_rfl) (by kernel_rfl) (fun _ _ _ h => h) (by rfl) hS ?_
          simp only [Act.put, List.setIfInBounds_toArray, List.set_cons_zero, List.set_cons_succ]
          refine skipH 7 (some 56) rfl rfl (by kernel_rfl) (by kernel_rfl) (by kernel_rfl) (fun _ _ _ h => h) (by rfl) hS ?_
          simp only [Act.put, List.setIfInBounds_toArray, List.set_cons_zero, List.set_cons_succ]
          refine skipH 8 (some 57) rfl rfl (by kernel_rfl) (by kernel_rfl) (by kernel_rfl) (fun _ _ _ h => h) (by rfl) hS ?_
          simp only [Act.put, List.setIfInBounds_toArray, List.set_cons_zero, List.set_cons_succ]
          refine skipH 9 (some 58) rfl rfl (by kernel_rfl) (by kernel_rfl) (by kernel_rfl) (fun _ _ _ h => h) (by rfl) hS ?_
          simp only [Act.put, List.setIfInBounds_toArray, List.set_cons_zero, List.set_cons_succ]
          refine skipH 10 (some 59) rfl rfl (by kernel_rfl) (by kernel_rfl) (by kernel_rfl) (fun _ _ _ h => h) (by rfl) hS ?_
          simp only [Act.put, List.setIfInBounds_toArray, List.set_cons_zero, List.set_cons_succ]
          refine skipH 11 (some 60) rfl rfl (by kernel_rfl) (by kernel_rfl) (by kernel_rfl) (fun _ _ _ h => h) (by rfl) hS ?_
          simp only [Act.put, List.setIfInBounds_toArray, List.set_cons_zero, List.set_cons_succ]
          refine skipH 12 (some 61) rfl rfl (by kernel_rfl) (by kernel_rfl) (by kernel_rfl) (fun _ _ _ h => h) (by rfl) hS ?_
          simp only [Act.put, List.setIfInBounds_toArray, List.set_cons_zero, List.set_cons_succ]
          refine skipH 13 (some 62) rfl rfl (by kernel_rfl) (by kernel_rfl) (by kernel_rfl) (fun _ _ _ h => h) (by rfl) hS ?_
          simp only [Act.put, List.setIfInBounds_toArray, List.set_cons_zero, List.set_cons_succ]
          refine skipH 14 (some 63) rfl rfl (by kernel_rfl) (by kernel_rfl) (by kernel_rfl) (fun _ _ _ h => h) (by rfl) hS ?_
          simp only [Act.put, List.setIfInBounds_toArray, List.set_cons_zero, List.set_cons_succ]
          refine skipH 15 (some 64) rfl rfl (by kernel_rfl) (by kernel_rfl) (by kernel_rfl) (fun _ _ _ h => h) (by rfl) hS ?_
          simp only [Act.put, List.setIfInBounds_toArray, List.set_cons_zero, List.set_cons_succ]
          refine skipH 16 (some 65) rfl rfl (by kernel_rfl) (by kernel_rfl) (by kernel_rfl) (fun _ _ _ h => h) (by rfl) hS ?_
          simp only [Act.put, List.setIfInBounds_toArray, List.set_cons_zero, List.set_cons_succ]
          refine skipH 17 (some 66) rfl rfl (by kernel_rfl) (by kernel_rfl) (by kernel_rfl) (fun _ _ _ h => h) (by rfl) hS ?_
          simp only [Act.put, List.setIfInBounds_toArray, List.set_cons_zero, List.set_cons_succ]
          refine skipH 18 (some 67) rfl rfl (by kernel_rfl) (by kernel_rfl) (by kernel_rfl) (fun _ _ _ h => h) (by rfl) hS ?_
          simp only [Act.put, List.setIfInBounds_toArray, List.set_cons_zero, List.set_cons_succ]
          refine skipH 19 (some 68) rfl rfl (by kernel_rfl) (by kernel_rfl) (by kernel_rfl) (fun _ _ _ h => h) (by rfl) hS ?_
          simp only [Act.put, List.setIfInBounds_toArray, List.set_cons_zero, List.set_cons_succ]
          refine skipH 20 (some 69) rfl rfl (by kernel_rfl) (by kernel_rfl) (by kernel_rfl) (fun _ _ _ h => h) (by rfl) hS ?_
          simp only [Act.put, List.setIfInBounds_toArray, List.set_cons_zero, List.set_cons_succ]
          refine skipH 21 (some 70) rfl rfl (by kernel_rfl) (by kernel_rfl) (by kernel_rfl) (fun _ _ _ h => h) (by rfl) hS ?_
          simp only [Act.put, List.setIfInBounds_toArray, List.set_cons_zero, List.set_cons_succ]
          refine skipH 22 (some 71) rfl rfl (by kernel_rfl) (by kernel_rfl) (by kernel_rfl) (fun _ _ _ h => h) (by rfl) hS ?_
          simp only [Act.put, List.setIfInBounds_toArray, List.set_cons_zero, List.set_cons_succ]
          refine skipH 23 (some 72) rfl rfl (by kernel_rfl) (by kernel_rfl) (by kernel_rfl) (fun _ _ _ h => h) (by rfl) hS ?_
          simp only [Act.put, List.setIfInBounds_toArray, List.set_cons_zero, List.set_cons_succ]
          refine skipH 24 (some 73) rfl rfl (by kernel_rfl) (by kernel_rfl) (by kernel_rfl) (fun _ _ _ h => h) (by rfl) hS ?_
          simp only [Act.put, List.setIfInBounds_toArray, List.set_cons_zero, List.set_cons_succ]
          refine skipH 25 (some 74) rfl rfl (by kernel_rfl) (by kernel_rfl) (by kernel_rfl) (fun _ _ _ h => h) (by rfl) hS ?_
          simp only [Act.put, List.setIfInBounds_toArray, List.set_cons_zero, List.set_cons_succ]
          refine skipH 26 (some 75) rfl rfl (by kernel_rfl) (by kernel_rfl) (by kernel_rfl) (fun _ _ _ h => h) (by rfl) hS ?_
          simp only [Act.put, List.setIfInBounds_toArray, List.set_cons_zero, List.set_cons_succ]
          refine takeH 27 (some 76) (.bool false) rfl rfl (by kernel_rfl) (by kernel_rfl) (by kernel_rfl) (fun _ _ _ h => h) (by rfl) hS (fun w hSw => by obtain ⟨-, z0, z1, z2, z3, z4, z5, z6, z7, z8, z9, -⟩ := hSw.g; go_split_ands; go_simp <;> first | rfl | omega | (intro h; exfalso; omega)) ?_
          simp only [Act.put, List.setIfInBounds_toArray, List.set_cons_zero, List.set_cons_succ]
          refine wpAnyH_done (by kernel_rfl) ?_ _
          go_wp2
          go_roundw
          case rel => exact ⟨v + 1, by omega, by go_num, hf, hS⟩
          case measure => simp [intOf]; omega
        | true =>
        obtain ⟨rfl, hi0⟩ := n2 hs1
        cases hs2 : hsB m L H v hi with
        | false =>
          have hf := hcont (by simp [Net.fit, netOf, frR, toR, hs2])
          rw [hs1] at k1
          rw [hs2] at k2
          clear hcont n2 n4
          go_wp2
          refine wp_region_held_drew (S := fun w' => H8 w w' p ao n cap F T G po k pcap P eo m ecap L H (some ⟨bu, ou, none⟩) ucap U (some ⟨bv, ov, none⟩) vcap V ma me e true) (by kernel_rfl) (K2.next (Below.refl _ _).drew) (fun hS => ?_)
          refine takeH 0 (some 49) (.bool true) rfl rfl (by kernel_rfl) (by kernel_rfl) (by kernel_rfl) (fun _ _ _ h => h) (by rfl) hS (fun w hSw => by obtain ⟨-, z0, z1, z2, z3, z4, z5, z6, z7, z8, z9, -⟩ := hSw.g; go_split_ands; go_simp <;> first | rfl | omega | (intro h; exfalso; omega)) ?_
          simp only [Act.put, List.setIfInBounds_toArray, List.set_cons_zero, List.set_cons_succ]
          refine takeH 1 (some 50) (.bool true) rfl rfl (by kernel_rfl) (by kernel_rfl) (by kernel_rfl) (fun _ _ _ h => h) (by rfl) hS (fun w hSw => by obtain ⟨-, z0, z1, z2, z3, z4, z5, z6, z7, z8, z9, -⟩ := hSw.g; go_split_ands; go_simp <;> first | rfl | omega | (intro h; exfalso; omega)) ?_
          simp only [Act.put, List.setIfInBounds_toArray, List.set_cons_zero, List.set_cons_succ]
          refine takeH 2 (some 51) (.bool false) rfl rfl (by kernel_rfl) (by kernel_rfl) (by kernel_rfl) (fun _ _ _ h => h) (by rfl) hS (fun w hSw => by obtain ⟨-, z0, z1, z2, z3, z4, z5, z6, z7, z8, z9, -⟩ := hSw.g; go_split_ands; go_simp <;> first | rfl | omega | (intro h; exfalso; omega)) ?_
          simp only [Act.put, List.setIfInBounds_toArray, List.set_cons_zero, List.set_cons_succ]
          refine takeH 3 (some 52) (.bool false) rfl rfl (by kernel_rfl) (by kernel_rfl) (by kernel_rfl) (fun _ _ _ h => h) (by rfl) hS (fun w hSw => by obtain ⟨-, z0, z1, z2, z3, z4, z5, z6, z7, z8, z9, -⟩ := hSw.g; go_split_ands; go_simp <;> first | rfl | omega | (intro h; exfalso; omega)) ?_
          simp only [Act.put, List.setIfInBounds_toArray, List.set_cons_zero, List.set_cons_succ]
          refine takeH 4 (some 53) (.bool false) rfl rfl (by kernel_rfl) (by kernel_rfl) (by kernel_rfl) (fun _ _ _ h => h) (by rfl) hS (fun w hSw => by obtain ⟨-, z0, z1, z2, z3, z4, z5, z6, z7, z8, z9, -⟩ := hSw.g; go_split_ands; go_simp <;> first | rfl | omega | (intro h; exfalso; omega)) ?_
          simp only [Act.put, List.setIfInBounds_toArray, List.set_cons_zero, List.set_cons_succ]
          refine skipH 5 (some 54) rfl rfl (by kernel_rfl) (by kernel_rfl) (by kernel_rfl) (fun _ _ _ h => h) (by rfl) hS ?_
          simp only [Act.put, List.setIfInBounds_toArray, List.set_cons_zero, List.set_cons_succ]
          refine skipH 6 (some 55) rfl rfl (by kernel_rfl) (by kernel_rfl) (by kernel_rfl) (fun _ _ _ h => h) (by rfl) hS ?_
          simp only [Act.put, List.setIfInBounds_toArray, List.set_cons_zero, List.set_cons_succ]
          refine skipH 7 (some 56) rfl rfl (by kernel_rfl) (by kernel_rfl) (by kernel_rfl) (fun _ _ _ h => h) (by rfl) hS ?_
          simp only [Act.put, List.setIfInBounds_toArray, List.set_cons_zero, List.set_cons_succ]
          refine skipH 8 (some 57) rfl rfl (by kernel_rfl) (by kernel_rfl) (by kernel_rfl) (fun _ _ _ h => h) (by rfl) hS ?_
          simp only [Act.put, List.setIfInBounds_toArray, List.set_cons_zero, List.set_cons_succ]
          refine skipH 9 (some 58) rfl rfl (by kernel_rfl) (by kernel_rfl) (by kernel_rfl) (fun _ _ _ h => h) (by rfl) hS ?_
          simp only [Act.put, List.setIfInBounds_toArray, List.set_cons_zero, List.set_cons_succ]
          refine skipH 10 (some 59) rfl rfl (by kernel_rfl) (by kernel_rfl) (by kernel_rfl) (fun _ _ _ h => h) (by rfl) hS ?_
          simp only [Act.put, List.setIfInBounds_toArray, List.set_cons_zero, List.set_cons_succ]
          refine skipH 11 (some 60) rfl rfl (by kernel_rfl) (by kernel_rfl) (by kernel_rfl) (fun _ _ _ h => h) (by rfl) hS ?_
          simp only [Act.put, List.setIfInBounds_toArray, List.set_cons_zero, List.set_cons_succ]
          refine skipH 12 (some 61) rfl rfl (by kernel_rfl) (by kernel_rfl) (by kernel_rfl) (fun _ _ _ h => h) (by rfl) hS ?_
          simp only [Act.put, List.setIfInBounds_toArray, List.set_cons_zero, List.set_cons_succ]
          refine skipH 13 (some 62) rfl rfl (by kernel_rfl) (by kernel_rfl) (by kernel_rfl) (fun _ _ _ h => h) (by rfl) hS ?_
          simp only [Act.put, List.setIfInBounds_toArray, List.set_cons_zero, List.set_cons_succ]
          refine skipH 14 (some 63) rfl rfl (by kernel_rfl) (by kernel_rfl) (by kernel_rfl) (fun _ _ _ h => h) (by rfl) hS ?_
          simp only [Act.put, List.setIfInBounds_toArray, List.set_cons_zero, List.set_cons_succ]
          refine skipH 15 (some 64) rfl rfl (by kernel_rfl) (by kernel_rfl) (by kernel_rfl) (fun _ _ _ h => h) (by rfl) hS ?_
          simp only [Act.put, List.setIfInBounds_toArray, List.set_cons_zero, List.set_cons_succ]
          refine skipH 16 (some 65) rfl rfl (by kernel_rfl) (by kernel_rfl) (by kernel_rfl) (fun _ _ _ h => h) (by rfl) hS ?_
          simp only [Act.put, List.setIfInBounds_toArray, List.set_cons_zero, List.set_cons_succ]
          refine skipH 17 (some 66) rfl rfl (by kernel_rfl) (by kernel_rfl) (by kernel_rfl) (fun _ _ _ h => h) (by rfl) hS ?_
          simp only [Act.put, List.setIfInBounds_toArray, List.set_cons_zero, List.set_cons_succ]
          refine skipH 18 (some 67) rfl rfl (by kernel_rfl) (by kernel_rfl) (by kernel_rfl) (fun _ _ _ h => h) (by rfl) hS ?_
          simp only [Act.put, List.setIfInBounds_toArray, List.set_cons_zero, List.set_cons_succ]
          refine skipH 19 (some 68) rfl rfl (by kernel_rfl) (by kernel_rfl) (by kernel_rfl) (fun _ _ _ h => h) (by rfl) hS ?_
          simp only [Act.put, List.setIfInBounds_toArray, List.set_cons_zero, List.set_cons_succ]
          refine skipH 20 (some 69) rfl rfl (by kernel_rfl) (by kernel_rfl) (by kernel_rfl) (fun _ _ _ h => h) (by rfl) hS ?_
          simp only [Act.put, List.setIfInBounds_toArray, List.set_cons_zero, List.set_cons_succ]
          refine skipH 21 (some 70) rfl rfl (by kernel_rfl) (by kernel_rfl) (by kernel_rfl) (fun _ _ _ h => h) (by rfl) hS ?_
          simp only [Act.put, List.setIfInBounds_toArray, List.set_cons_zero, List.set_cons_succ]
          refine skipH 22 (some 71) rfl rfl (by kernel_rfl) (by kernel_rfl) (by kernel_rfl) (fun _ _ _ h => h) (by rfl) hS ?_
          simp only [Act.put, List.setIfInBounds_toArray, List.set_cons_zero, List.set_cons_succ]
          refine skipH 23 (some 72) rfl rfl (by kernel_rfl) (by kernel_rfl) (by kernel_rfl) (fun _ _ _ h => h) (by rfl) hS ?_
          simp only [Act.put, List.setIfInBounds_toArray, List.set_cons_zero, List.set_cons_succ]
          refine skipH 24 (some 73) rfl rfl (by kernel_rfl) (by kernel_rfl) (by kernel_rfl) (fun _ _ _ h => h) (by rfl) hS ?_
          simp only [Act.put, List.setIfInBounds_toArray, List.set_cons_zero, List.set_cons_succ]
          refine skipH 25 (some 74) rfl rfl (by kernel_rfl) (by kernel_rfl) (by kernel_rfl) (fun _ _ _ h => h) (by rfl) hS ?_
          simp only [Act.put, List.setIfInBounds_toArray, List.set_cons_zero, List.set_cons_succ]
          refine skipH 26 (some 75) rfl rfl (by kernel_rfl) (by kernel_rfl) (by kernel_rfl) (fun _ _ _ h => h) (by rfl) hS ?_
          simp only [Act.put, List.setIfInBounds_toArray, List.set_cons_zero, List.set_cons_succ]
          refine takeH 27 (some 76) (.bool false) rfl rfl (by kernel_rfl) (by kernel_rfl) (by kernel_rfl) (fun _ _ _ h => h) (by rfl) hS (fun w hSw => by obtain ⟨-, z0, z1, z2, z3, z4, z5, z6, z7, z8, z9, -⟩ := hSw.g; go_split_ands; go_simp <;> first | rfl | omega | (intro h; exfalso; omega)) ?_
          simp only [Act.put, List.setIfInBounds_toArray, List.set_cons_zero, List.set_cons_succ]
          refine wpAnyH_done (by kernel_rfl) ?_ _
          go_wp2
          go_roundw
          case rel => exact ⟨v + 1, by omega, by go_num, hf, hS⟩
          case measure => simp [intOf]; omega
        | true =>
        obtain ⟨rfl, hk0⟩ := n4 hs2
        rw [hs1] at k1
        rw [hs2] at k2
        have l8 : (0 : Int) ≤ ((fnd L H v lo m : Nat) : Int) := by omega
        have l9 : ((fnd L H v lo m : Nat) : Int) < (m : Int) := by omega
        have l10 : (0 : Int) ≤ ((fnd L H v hi m : Nat) : Int) := by omega
        have l11 : ((fnd L H v hi m : Nat) : Int) < (m : Int) := by omega
        have l12 : (0 : Int) ≤ (e : Int) := by omega
        have l13 : (e : Int) < (m : Int) := by omega
        have hfit : (netOf n F T G P m L H U V).fit lo hi true v = decide (addF (V (fnd L H v lo m)) (U (fnd L H v hi m)) = U e) := by simp [Net.fit, netOf, frR, toR, hs1, hs2, Net.wt, hfe]
        by_cases hqq : addF (V (fnd L H v lo m)) (U (fnd L H v hi m)) = U e
        · have hqd : (min 1000000000000 (V (fnd L H v lo m) + U (fnd L H v hi m)) == U e) = true := by simpa [addF] using hqq
          clear hcont n2 n4
          go_wp2
          refine wp_region_held_drew (S := fun w' => H8 w w' p ao n cap F T G po k pcap P eo m ecap L H (some ⟨bu, ou, none⟩) ucap U (some ⟨bv, ov, none⟩) vcap V ma me e true) (by kernel_rfl) (K2.next (Below.refl _ _).drew) (fun hS => ?_)
          refine takeH 0 (some 49) (.bool true) rfl rfl (by kernel_rfl) (by kernel_rfl) (by kernel_rfl) (fun _ _ _ h => h) (by rfl) hS (fun w hSw => by obtain ⟨-, z0, z1, z2, z3, z4, z5, z6, z7, z8, z9, -⟩ := hSw.g; obtain ⟨bx, ox, ex, z10⟩ := hSw.r.rows.dn _ hi0; cases ex; obtain ⟨bx, ox, ex, z11⟩ := hSw.r.rows.up _ hk0; cases ex; obtain ⟨bx, ox, ex, z12⟩ := hSw.r.rows.up e he; cases ex; go_split_ands; go_simp <;> first | rfl | omega | (intro h; exfalso; omega)) ?_
          simp only [Act.put, List.setIfInBounds_toArray, List.set_cons_zero, List.set_cons_succ]
          refine takeH 1 (some 50) (.bool true) rfl rfl (by kernel_rfl) (by kernel_rfl) (by kernel_rfl) (fun _ _ _ h => h) (by rfl) hS (fun w hSw => by obtain ⟨-, z0, z1, z2, z3, z4, z5, z6, z7, z8, z9, -⟩ := hSw.g; obtain ⟨bx, ox, ex, z10⟩ := hSw.r.rows.dn _ hi0; cases ex; obtain ⟨bx, ox, ex, z11⟩ := hSw.r.rows.up _ hk0; cases ex; obtain ⟨bx, ox, ex, z12⟩ := hSw.r.rows.up e he; cases ex; go_split_ands; go_simp <;> first | rfl | omega | (intro h; exfalso; omega)) ?_
          simp only [Act.put, List.setIfInBounds_toArray, List.set_cons_zero, List.set_cons_succ]
          refine takeH 2 (some 51) (.bool true) rfl rfl (by kernel_rfl) (by kernel_rfl) (by kernel_rfl) (fun _ _ _ h => h) (by rfl) hS (fun w hSw => by obtain ⟨-, z0, z1, z2, z3, z4, z5, z6, z7, z8, z9, -⟩ := hSw.g; obtain ⟨bx, ox, ex, z10⟩ := hSw.r.rows.dn _ hi0; cases ex; obtain ⟨bx, ox, ex, z11⟩ := hSw.r.rows.up _ hk0; cases ex; obtain ⟨bx, ox, ex, z12⟩ := hSw.r.rows.up e he; cases ex; go_split_ands; go_simp <;> first | rfl | omega | (intro h; exfalso; omega)) ?_
          simp only [Act.put, List.setIfInBounds_toArray, List.set_cons_zero, List.set_cons_succ]
          refine takeH 3 (some 52) (.bool true) rfl rfl (by kernel_rfl) (by kernel_rfl) (by kernel_rfl) (fun _ _ _ h => h) (by rfl) hS (fun w hSw => by obtain ⟨-, z0, z1, z2, z3, z4, z5, z6, z7, z8, z9, -⟩ := hSw.g; obtain ⟨bx, ox, ex, z10⟩ := hSw.r.rows.dn _ hi0; cases ex; obtain ⟨bx, ox, ex, z11⟩ := hSw.r.rows.up _ hk0; cases ex; obtain ⟨bx, ox, ex, z12⟩ := hSw.r.rows.up e he; cases ex; go_split_ands; go_simp <;> first | rfl | omega | (intro h; exfalso; omega)) ?_
          simp only [Act.put, List.setIfInBounds_toArray, List.set_cons_zero, List.set_cons_succ]
          refine takeH 4 (some 53) (.bool true) rfl rfl (by kernel_rfl) (by kernel_rfl) (by kernel_rfl) (fun _ _ _ h => h) (by rfl) hS (fun w hSw => by obtain ⟨-, z0, z1, z2, z3, z4, z5, z6, z7, z8, z9, -⟩ := hSw.g; obtain ⟨bx, ox, ex, z10⟩ := hSw.r.rows.dn _ hi0; cases ex; obtain ⟨bx, ox, ex, z11⟩ := hSw.r.rows.up _ hk0; cases ex; obtain ⟨bx, ox, ex, z12⟩ := hSw.r.rows.up e he; cases ex; go_split_ands; go_simp <;> first | rfl | omega | (intro h; exfalso; omega)) ?_
          simp only [Act.put, List.setIfInBounds_toArray, List.set_cons_zero, List.set_cons_succ]
          refine takeH 5 (some 54) (.pointer (some ⟨w.heap.size, 4, none⟩)) rfl rfl (by kernel_rfl) (by kernel_rfl) (by kernel_rfl) (fun _ _ _ h => h) (by rfl) hS (fun w hSw => by obtain ⟨-, z0, z1, z2, z3, z4, z5, z6, z7, z8, z9, -⟩ := hSw.g; obtain ⟨bx, ox, ex, z10⟩ := hSw.r.rows.dn _ hi0; cases ex; obtain ⟨bx, ox, ex, z11⟩ := hSw.r.rows.up _ hk0; cases ex; obtain ⟨bx, ox, ex, z12⟩ := hSw.r.rows.up e he; cases ex; go_split_ands; go_simp <;> first | rfl | omega | (intro h; exfalso; omega)) ?_
          simp only [Act.put, List.setIfInBounds_toArray, List.set_cons_zero, List.set_cons_succ]
          refine takeH 6 (some 55) (.pointer (some ⟨w.heap.size, 5, none⟩)) rfl rfl (by kernel_rfl) (by kernel_rfl) (by kernel_rfl) (fun _ _ _ h => h) (by rfl) hS (fun w hSw => by obtain ⟨-, z0, z1, z2, z3, z4, z5, z6, z7, z8, z9, -⟩ := hSw.g; obtain ⟨bx, ox, ex, z10⟩ := hSw.r.rows.dn _ hi0; cases ex; obtain ⟨bx, ox, ex, z11⟩ := hSw.r.rows.up _ hk0; cases ex; obtain ⟨bx, ox, ex, z12⟩ := hSw.r.rows.up e he; cases ex; go_split_ands; go_simp <;> first | rfl | omega | (intro h; exfalso; omega)) ?_
          simp only [Act.put, List.setIfInBounds_toArray, List.set_cons_zero, List.set_cons_succ]
          refine takeH 7 (some 56) (.slice (some ⟨bv, ov, none⟩) m vcap) rfl rfl (by kernel_rfl) (by kernel_rfl) (by kernel_rfl) (fun _ _ _ h => h) (by rfl) hS (fun w hSw => by obtain ⟨-, z0, z1, z2, z3, z4, z5, z6, z7, z8, z9, -⟩ := hSw.g; obtain ⟨bx, ox, ex, z10⟩ := hSw.r.rows.dn _ hi0; cases ex; obtain ⟨bx, ox, ex, z11⟩ := hSw.r.rows.up _ hk0; cases ex; obtain ⟨bx, ox, ex, z12⟩ := hSw.r.rows.up e he; cases ex; go_split_ands; go_simp <;> first | rfl | omega | (intro h; exfalso; omega)) ?_
          simp only [Act.put, List.setIfInBounds_toArray, List.set_cons_zero, List.set_cons_succ]
          refine takeH 8 (some 57) (.int .i64 ((fnd L H v lo m : Nat) : Int)) rfl rfl (by kernel_rfl) (by kernel_rfl) (by kernel_rfl) (fun _ _ _ h => h) (by rfl) hS (fun w hSw => by obtain ⟨-, z0, z1, z2, z3, z4, z5, z6, z7, z8, z9, -⟩ := hSw.g; obtain ⟨bx, ox, ex, z10⟩ := hSw.r.rows.dn _ hi0; cases ex; obtain ⟨bx, ox, ex, z11⟩ := hSw.r.rows.up _ hk0; cases ex; obtain ⟨bx, ox, ex, z12⟩ := hSw.r.rows.up e he; cases ex; go_split_ands; go_simp <;> first | rfl | omega | (intro h; exfalso; omega)) ?_
          simp only [Act.put, List.setIfInBounds_toArray, List.set_cons_zero, List.set_cons_succ]
          refine takeH 9 (some 58) (.pointer (some ⟨bv, ov + fnd L H v lo m, none⟩)) rfl rfl (by kernel_rfl) (by kernel_rfl) (by kernel_rfl) (fun _ _ _ h => h) (by rfl) hS (fun w hSw => by obtain ⟨-, z0, z1, z2, z3, z4, z5, z6, z7, z8, z9, -⟩ := hSw.g; obtain ⟨bx, ox, ex, z10⟩ := hSw.r.rows.dn _ hi0; cases ex; obtain ⟨bx, ox, ex, z11⟩ := hSw.r.rows.up _ hk0; cases ex; obtain ⟨bx, ox, ex, z12⟩ := hSw.r.rows.up e he; cases ex; go_split_ands; go_simp <;> first | rfl | omega | (intro h; exfalso; omega)) ?_
          simp only [Act.put, List.setIfInBounds_toArray, List.set_cons_zero, List.set_cons_succ]
          refine takeH 10 (some 59) (.int .i64 (V (fnd L H v lo m))) rfl rfl (by kernel_rfl) (by kernel_rfl) (by kernel_rfl) (fun _ _ _ h => h) (by rfl) hS (fun w hSw => by obtain ⟨-, z0, z1, z2, z3, z4, z5, z6, z7, z8, z9, -⟩ := hSw.g; obtain ⟨bx, ox, ex, z10⟩ := hSw.r.rows.dn _ hi0; cases ex; obtain ⟨bx, ox, ex, z11⟩ := hSw.r.rows.up _ hk0; cases ex; obtain ⟨bx, ox, ex, z12⟩ := hSw.r.rows.up e he; cases ex; go_split_ands; go_simp <;> first | rfl | omega | (intro h; exfalso; omega)) ?_
          simp only [Act.put, List.setIfInBounds_toArray, List.set_cons_zero, List.set_cons_succ]
          refine takeH 11 (some 60) (.pointer (some ⟨w.heap.size, 4, none⟩)) rfl rfl (by kernel_rfl) (by kernel_rfl) (by kernel_rfl) (fun _ _ _ h => h) (by rfl) hS (fun w hSw => by obtain ⟨-, z0, z1, z2, z3, z4, z5, z6, z7, z8, z9, -⟩ := hSw.g; obtain ⟨bx, ox, ex, z10⟩ := hSw.r.rows.dn _ hi0; cases ex; obtain ⟨bx, ox, ex, z11⟩ := hSw.r.rows.up _ hk0; cases ex; obtain ⟨bx, ox, ex, z12⟩ := hSw.r.rows.up e he; cases ex; go_split_ands; go_simp <;> first | rfl | omega | (intro h; exfalso; omega)) ?_
          simp only [Act.put, List.setIfInBounds_toArray, List.set_cons_zero, List.set_cons_succ]
          refine takeH 12 (some 61) (.pointer (some ⟨w.heap.size, 4, none⟩)) rfl rfl (by kernel_rfl) (by kernel_rfl) (by kernel_rfl) (fun _ _ _ h => h) (by rfl) hS (fun w hSw => by obtain ⟨-, z0, z1, z2, z3, z4, z5, z6, z7, z8, z9, -⟩ := hSw.g; obtain ⟨bx, ox, ex, z10⟩ := hSw.r.rows.dn _ hi0; cases ex; obtain ⟨bx, ox, ex, z11⟩ := hSw.r.rows.up _ hk0; cases ex; obtain ⟨bx, ox, ex, z12⟩ := hSw.r.rows.up e he; cases ex; go_split_ands; go_simp <;> first | rfl | omega | (intro h; exfalso; omega)) ?_
          simp only [Act.put, List.setIfInBounds_toArray, List.set_cons_zero, List.set_cons_succ]
          refine takeH 13 (some 62) (.slice (some ⟨bu, ou, none⟩) m ucap) rfl rfl (by kernel_rfl) (by kernel_rfl) (by kernel_rfl) (fun _ _ _ h => h) (by rfl) hS (fun w hSw => by obtain ⟨-, z0, z1, z2, z3, z4, z5, z6, z7, z8, z9, -⟩ := hSw.g; obtain ⟨bx, ox, ex, z10⟩ := hSw.r.rows.dn _ hi0; cases ex; obtain ⟨bx, ox, ex, z11⟩ := hSw.r.rows.up _ hk0; cases ex; obtain ⟨bx, ox, ex, z12⟩ := hSw.r.rows.up e he; cases ex; go_split_ands; go_simp <;> first | rfl | omega | (intro h; exfalso; omega)) ?_
          simp only [Act.put, List.setIfInBounds_toArray, List.set_cons_zero, List.set_cons_succ]
          refine takeH 14 (some 63) (.int .i64 ((fnd L H v hi m : Nat) : Int)) rfl rfl (by kernel_rfl) (by kernel_rfl) (by kernel_rfl) (fun _ _ _ h => h) (by rfl) hS (fun w hSw => by obtain ⟨-, z0, z1, z2, z3, z4, z5, z6, z7, z8, z9, -⟩ := hSw.g; obtain ⟨bx, ox, ex, z10⟩ := hSw.r.rows.dn _ hi0; cases ex; obtain ⟨bx, ox, ex, z11⟩ := hSw.r.rows.up _ hk0; cases ex; obtain ⟨bx, ox, ex, z12⟩ := hSw.r.rows.up e he; cases ex; go_split_ands; go_simp <;> first | rfl | omega | (intro h; exfalso; omega)) ?_
          simp only [Act.put, List.setIfInBounds_toArray, List.set_cons_zero, List.set_cons_succ]
          refine takeH 15 (some 64) (.pointer (some ⟨bu, ou + fnd L H v hi m, none⟩)) rfl rfl (by kernel_rfl) (by kernel_rfl) (by kernel_rfl) (fun _ _ _ h => h) (by rfl) hS (fun w hSw => by obtain ⟨-, z0, z1, z2, z3, z4, z5, z6, z7, z8, z9, -⟩ := hSw.g; obtain ⟨bx, ox, ex, z10⟩ := hSw.r.rows.dn _ hi0; cases ex; obtain ⟨bx, ox, ex, z11⟩ := hSw.r.rows.up _ hk0; cases ex; obtain ⟨bx, ox, ex, z12⟩ := hSw.r.rows.up e he; cases ex; go_split_ands; go_simp <;> first | rfl | omega | (intro h; exfalso; omega)) ?_
          simp only [Act.put, List.setIfInBounds_toArray, List.set_cons_zero, List.set_cons_succ]
          refine takeH 16 (some 65) (.int .i64 (U (fnd L H v hi m))) rfl rfl (by kernel_rfl) (by kernel_rfl) (by kernel_rfl) (fun _ _ _ h => h) (by rfl) hS (fun w hSw => by obtain ⟨-, z0, z1, z2, z3, z4, z5, z6, z7, z8, z9, -⟩ := hSw.g; obtain ⟨bx, ox, ex, z10⟩ := hSw.r.rows.dn _ hi0; cases ex; obtain ⟨bx, ox, ex, z11⟩ := hSw.r.rows.up _ hk0; cases ex; obtain ⟨bx, ox, ex, z12⟩ := hSw.r.rows.up e he; cases ex; go_split_ands; go_simp <;> first | rfl | omega | (intro h; exfalso; omega)) ?_
          simp only [Act.put, List.setIfInBounds_toArray, List.set_cons_zero, List.set_cons_succ]
          refine takeH 18 (some 67) (.agg #[.int .i64 p, .slice ao n cap, .slice po k pcap, .slice eo m ecap, .slice (some ⟨bu, ou, none⟩) m ucap, .slice (some ⟨bv, ov, none⟩) m vcap, .map (some ma), .map (some me)]) rfl rfl (by kernel_rfl) (by kernel_rfl) (by kernel_rfl) (fun _ _ _ h => h) (by rfl) hS (fun w hSw => by obtain ⟨-, z0, z1, z2, z3, z4, z5, z6, z7, z8, z9, -⟩ := hSw.g; obtain ⟨bx, ox, ex, z10⟩ := hSw.r.rows.dn _ hi0; cases ex; obtain ⟨bx, ox, ex, z11⟩ := hSw.r.rows.up _ hk0; cases ex; obtain ⟨bx, ox, ex, z12⟩ := hSw.r.rows.up e he; cases ex; go_split_ands; go_simp <;> first | rfl | omega | (intro h; exfalso; omega)) ?_
          simp only [Act.put, List.setIfInBounds_toArray, List.set_cons_zero, List.set_cons_succ]
          refine takeH 19 (some 68) (.pointer (some ⟨w.heap.size + 1, 1, none⟩)) rfl rfl (by kernel_rfl) (by kernel_rfl) (by kernel_rfl) (fun _ _ _ h => h) (by rfl) hS (fun w hSw => by obtain ⟨-, z0, z1, z2, z3, z4, z5, z6, z7, z8, z9, -⟩ := hSw.g; obtain ⟨bx, ox, ex, z10⟩ := hSw.r.rows.dn _ hi0; cases ex; obtain ⟨bx, ox, ex, z11⟩ := hSw.r.rows.up _ hk0; cases ex; obtain ⟨bx, ox, ex, z12⟩ := hSw.r.rows.up e he; cases ex; go_split_ands; go_simp <;> first | rfl | omega | (intro h; exfalso; omega)) ?_
          simp only [Act.put, List.setIfInBounds_toArray, List.set_cons_zero, List.set_cons_succ]
          refine takeH 20 (some 69) (.bool true) rfl rfl (by kernel_rfl) (by kernel_rfl) (by kernel_rfl) (fun _ _ _ h => h) (by rfl) hS (fun w hSw => by obtain ⟨-, z0, z1, z2, z3, z4, z5, z6, z7, z8, z9, -⟩ := hSw.g; obtain ⟨bx, ox, ex, z10⟩ := hSw.r.rows.dn _ hi0; cases ex; obtain ⟨bx, ox, ex, z11⟩ := hSw.r.rows.up _ hk0; cases ex; obtain ⟨bx, ox, ex, z12⟩ := hSw.r.rows.up e he; cases ex; go_split_ands; go_simp <;> first | rfl | omega | (intro h; exfalso; omega)) ?_
          simp only [Act.put, List.setIfInBounds_toArray, List.set_cons_zero, List.set_cons_succ]
          refine takeH 22 (some 71) (.pointer (some ⟨w.heap.size + 1, 0, none⟩)) rfl rfl (by kernel_rfl) (by kernel_rfl) (by kernel_rfl) (fun _ _ _ h => h) (by rfl) hS (fun w hSw => by obtain ⟨-, z0, z1, z2, z3, z4, z5, z6, z7, z8, z9, -⟩ := hSw.g; obtain ⟨bx, ox, ex, z10⟩ := hSw.r.rows.dn _ hi0; cases ex; obtain ⟨bx, ox, ex, z11⟩ := hSw.r.rows.up _ hk0; cases ex; obtain ⟨bx, ox, ex, z12⟩ := hSw.r.rows.up e he; cases ex; go_split_ands; go_simp <;> first | rfl | omega | (intro h; exfalso; omega)) ?_
          simp only [Act.put, List.setIfInBounds_toArray, List.set_cons_zero, List.set_cons_succ]
          refine takeH 23 (some 72) (.int .i64 (e : Int)) rfl rfl (by kernel_rfl) (by kernel_rfl) (by kernel_rfl) (fun _ _ _ h => h) (by rfl) hS (fun w hSw => by obtain ⟨-, z0, z1, z2, z3, z4, z5, z6, z7, z8, z9, -⟩ := hSw.g; obtain ⟨bx, ox, ex, z10⟩ := hSw.r.rows.dn _ hi0; cases ex; obtain ⟨bx, ox, ex, z11⟩ := hSw.r.rows.up _ hk0; cases ex; obtain ⟨bx, ox, ex, z12⟩ := hSw.r.rows.up e he; cases ex; go_split_ands; go_simp <;> first | rfl | omega | (intro h; exfalso; omega)) ?_
          simp only [Act.put, List.setIfInBounds_toArray, List.set_cons_zero, List.set_cons_succ]
          refine step1H 17 _ rfl (by kernel_rfl) (by rfl) ?_
          go_simp
          refine (plus_any (V (fnd L H v lo m)) (U (fnd L H v hi m)) (D.dn _ hi0).1 (D.dn _ hi0).2 (D.up _ hk0).1 (D.up _ hk0).2 _).mono ?_
          rintro x y1 ⟨rfl, rfl⟩
          refine ⟨hS, ?_⟩
          refine step1H 21 _ rfl (by kernel_rfl) (by rfl) ?_
          go_simp
          refine (weights_any _ _ _ _ _ _ _ _ _ _ _ _ _ _ _ _ true _).mono ?_
          simp only [if_true, if_false, Bool.false_eq_true]
          rintro x y2 ⟨rfl, hy2⟩
          have hS1 : (fun w' => H8 w w' p ao n cap F T G po k pcap P eo m ecap L H (some ⟨bu, ou, none⟩) ucap U (some ⟨bv, ov, none⟩) vcap V ma me e true) y2 := H8.next hS hy2
          refine ⟨hS1, ?_⟩
          refine takeH 24 (some 73) (.pointer (some ⟨bu, ou + e, none⟩)) rfl rfl (by kernel_rfl) (by kernel_rfl) (by kernel_rfl) (fun _ _ _ h => h) (by rfl) hS1 (fun w hSw => by obtain ⟨-, z0, z1, z2, z3, z4, z5, z6, z7, z8, z9, -⟩ := hSw.g; obtain ⟨bx, ox, ex, z10⟩ := hSw.r.rows.dn _ hi0; cases ex; obtain ⟨bx, ox, ex, z11⟩ := hSw.r.rows.up _ hk0; cases ex; obtain ⟨bx, ox, ex, z12⟩ := hSw.r.rows.up e he; cases ex; go_split_ands; go_simp <;> first | rfl | omega | (intro h; exfalso; omega)) ?_
          simp only [Act.put, List.setIfInBounds_toArray, List.set_cons_zero, List.set_cons_succ]
          refine takeH 25 (some 74) (.int .i64 (U e)) rfl rfl (by kernel_rfl) (by kernel_rfl) (by kernel_rfl) (fun _ _ _ h => h) (by rfl) hS1 (fun w hSw => by obtain ⟨-, z0, z1, z2, z3, z4, z5, z6, z7, z8, z9, -⟩ := hSw.g; obtain ⟨bx, ox, ex, z10⟩ := hSw.r.rows.dn _ hi0; cases ex; obtain ⟨bx, ox, ex, z11⟩ := hSw.r.rows.up _ hk0; cases ex; obtain ⟨bx, ox, ex, z12⟩ := hSw.r.rows.up e he; cases ex; go_split_ands; go_simp <;> first | rfl | omega | (intro h; exfalso; omega)) ?_
          simp only [Act.put, List.setIfInBounds_toArray, List.set_cons_zero, List.set_cons_succ]
          refine takeH 26 (some 75) (.bool true) rfl rfl (by kernel_rfl) (by kernel_rfl) (by kernel_rfl) (fun _ _ _ h => h) (by rfl) hS1 (fun w hSw => by obtain ⟨-, z0, z1, z2, z3, z4, z5, z6, z7, z8, z9, -⟩ := hSw.g; obtain ⟨bx, ox, ex, z10⟩ := hSw.r.rows.dn _ hi0; cases ex; obtain ⟨bx, ox, ex, z11⟩ := hSw.r.rows.up _ hk0; cases ex; obtain ⟨bx, ox, ex, z12⟩ := hSw.r.rows.up e he; cases ex; go_split_ands; go_simp <;> first | rfl | omega | (intro h; exfalso; omega)) ?_
          simp only [Act.put, List.setIfInBounds_toArray, List.set_cons_zero, List.set_cons_succ]
          refine takeH 27 (some 76) (.bool true) rfl rfl (by kernel_rfl) (by kernel_rfl) (by kernel_rfl) (fun _ _ _ h => h) (by rfl) hS1 (fun w hSw => by obtain ⟨-, z0, z1, z2, z3, z4, z5, z6, z7, z8, z9, -⟩ := hSw.g; obtain ⟨bx, ox, ex, z10⟩ := hSw.r.rows.dn _ hi0; cases ex; obtain ⟨bx, ox, ex, z11⟩ := hSw.r.rows.up _ hk0; cases ex; obtain ⟨bx, ox, ex, z12⟩ := hSw.r.rows.up e he; cases ex; go_split_ands; go_simp <;> first | rfl | omega | (intro h; exfalso; omega)) ?_
          simp only [Act.put, List.setIfInBounds_toArray, List.set_cons_zero, List.set_cons_succ]
          refine wpAnyH_done (by kernel_rfl) ?_ _
          have hh : (netOf n F T G P m L H U V).half lo hi true = some v := hnA.trans (Net.fst_step hlt HNO.out (hfit.trans (by simpa using hqq)))
          clear k1 k2 hqd
          have R1 := hS1.r1
          have R2 := hS1.r2
          have bl := hS1.g.bel
          have y0 := R1.cell (j := 0) (by omega)
          have y1 := R1.cell (j := 1) (by omega)
          have y2 := R2.cell (j := 0) (by omega)
          have y3 := R2.cell (j := 1) (by omega)
          have z1 := fun j => R1.frozen j
          have z2 := fun j => R2.frozen j
          simp [st2] at y0 y1 y2 y3
          go_wp2
          have u1 := (((R1.set 0 (.int .i64 ((fnd L H v lo m : Nat)))).set 1 (.bool false)).other (c := w.heap.size + 1 + 1 + 1) (i := 0) (by omega) (.int .i64 ((fnd L H v hi m : Nat)))).other (c := w.heap.size + 1 + 1 + 1) (i := 1) (by omega) (.bool true)
          have u2 := ((((R2.other (c := w.heap.size + 1 + 1) (i := 0) (by omega) (.int .i64 ((fnd L H v lo m : Nat)))).other (c := w.heap.size + 1 + 1) (i := 1) (by omega) (.bool false)).set 0 (.int .i64 ((fnd L H v hi m : Nat)))).set 1 (.bool true))
          have t0 := u1.cell (j := 0) (by omega)
          have t1 := u1.cell (j := 1) (by omega)
          have t2 := u2.cell (j := 0) (by omega)
          have t3 := u2.cell (j := 1) (by omega)
          simp at t0 t1 t2 t3
          exact bodyPost_ret (v := .tuple #[.agg #[.int .i64 ((fnd L H v lo m : Nat)), .bool false], .agg #[.int .i64 ((fnd L H v hi m : Nat)), .bool true], .bool true]) (by simp [results, Tryz.results115, go_sem, t0, t1, t2, t3]) rfl ⟨by first | (rw [hh]; rfl) | (rw [hnA] at hh; rw [hh]; rfl), (((bl.setCell (p := ⟨w.heap.size + 1 + 1, 0, none⟩) (by simp; omega) _).setCell (p := ⟨w.heap.size + 1 + 1, 1, none⟩) (by simp; omega) _).setCell (p := ⟨w.heap.size + 1 + 1 + 1, 0, none⟩) (by simp; omega) _).setCell (p := ⟨w.heap.size + 1 + 1 + 1, 1, none⟩) (by simp; omega) _⟩
        · have hqd : (min 1000000000000 (V (fnd L H v lo m) + U (fnd L H v hi m)) == U e) = false := by simpa [addF] using hqq
          have hf := hcont (by rw [hfit]; simpa using hqq)
          clear hcont n2 n4
          go_wp2
          refine wp_region_held_drew (S := fun w' => H8 w w' p ao n cap F T G po k pcap P eo m ecap L H (some ⟨bu, ou, none⟩) ucap U (some ⟨bv, ov, none⟩) vcap V ma me e true) (by kernel_rfl) (K2.next (Below.refl _ _).drew) (fun hS => ?_)
          refine takeH 0 (some 49) (.bool true) rfl rfl (by kernel_rfl) (by kernel_rfl) (by kernel_rfl) (fun _ _ _ h => h) (by rfl) hS (fun w hSw => by obtain ⟨-, z0, z1, z2, z3, z4, z5, z6, z7, z8, z9, -⟩ := hSw.g; obtain ⟨bx, ox, ex, z10⟩ := hSw.r.rows.dn _ hi0; cases ex; obtain ⟨bx, ox, ex, z11⟩ := hSw.r.rows.up _ hk0; cases ex; obtain ⟨bx, ox, ex, z12⟩ := hSw.r.rows.up e he; cases ex; go_split_ands; go_simp <;> first | rfl | omega | (intro h; exfalso; omega)) ?_
          simp only [Act.put, List.setIfInBounds_toArray, List.set_cons_zero, List.set_cons_succ]
          refine takeH 1 (some 50) (.bool true) rfl rfl (by kernel_rfl) (by kernel_rfl) (by kernel_rfl) (fun _ _ _ h => h) (by rfl) hS (fun w hSw => by obtain ⟨-, z0, z1, z2, z3, z4, z5, z6, z7, z8, z9, -⟩ := hSw.g; obtain ⟨bx, ox, ex, z10⟩ := hSw.r.rows.dn _ hi0; cases ex; obtain ⟨bx, ox, ex, z11⟩ := hSw.r.rows.up _ hk0; cases ex; obtain ⟨bx, ox, ex, z12⟩ := hSw.r.rows.up e he; cases ex; go_split_ands; go_simp <;> first | rfl | omega | (intro h; exfalso; omega)) ?_
          simp only [Act.put, List.setIfInBounds_toArray, List.set_cons_zero, List.set_cons_succ]
          refine takeH 2 (some 51) (.bool true) rfl rfl (by kernel_rfl) (by kernel_rfl) (by kernel_rfl) (fun _ _ _ h => h) (by rfl) hS (fun w hSw => by obtain ⟨-, z0, z1, z2, z3, z4, z5, z6, z7, z8, z9, -⟩ := hSw.g; obtain ⟨bx, ox, ex, z10⟩ := hSw.r.rows.dn _ hi0; cases ex; obtain ⟨bx, ox, ex, z11⟩ := hSw.r.rows.up _ hk0; cases ex; obtain ⟨bx, ox, ex, z12⟩ := hSw.r.rows.up e he; cases ex; go_split_ands; go_simp <;> first | rfl | omega | (intro h; exfalso; omega)) ?_
          simp only [Act.put, List.setIfInBounds_toArray, List.set_cons_zero, List.set_cons_succ]
          refine takeH 3 (some 52) (.bool true) rfl rfl (by kernel_rfl) (by kernel_rfl) (by kernel_rfl) (fun _ _ _ h => h) (by rfl) hS (fun w hSw => by obtain ⟨-, z0, z1, z2, z3, z4, z5, z6, z7, z8, z9, -⟩ := hSw.g; obtain ⟨bx, ox, ex, z10⟩ := hSw.r.rows.dn _ hi0; cases ex; obtain ⟨bx, ox, ex, z11⟩ := hSw.r.rows.up _ hk0; cases ex; obtain ⟨bx, ox, ex, z12⟩ := hSw.r.rows.up e he; cases ex; go_split_ands; go_simp <;> first | rfl | omega | (intro h; exfalso; omega)) ?_
          simp only [Act.put, List.setIfInBounds_toArray, List.set_cons_zero, List.set_cons_succ]
          refine takeH 4 (some 53) (.bool true) rfl rfl (by kernel_rfl) (by kernel_rfl) (by kernel_rfl) (fun _ _ _ h => h) (by rfl) hS (fun w hSw => by obtain ⟨-, z0, z1, z2, z3, z4, z5, z6, z7, z8, z9, -⟩ := hSw.g; obtain ⟨bx, ox, ex, z10⟩ := hSw.r.rows.dn _ hi0; cases ex; obtain ⟨bx, ox, ex, z11⟩ := hSw.r.rows.up _ hk0; cases ex; obtain ⟨bx, ox, ex, z12⟩ := hSw.r.rows.up e he; cases ex; go_split_ands; go_simp <;> first | rfl | omega | (intro h; exfalso; omega)) ?_
          simp only [Act.put, List.setIfInBounds_toArray, List.set_cons_zero, List.set_cons_succ]
          refine takeH 5 (some 54) (.pointer (some ⟨w.heap.size, 4, none⟩)) rfl rfl (by kernel_rfl) (by kernel_rfl) (by kernel_rfl) (fun _ _ _ h => h) (by rfl) hS (fun w hSw => by obtain ⟨-, z0, z1, z2, z3, z4, z5, z6, z7, z8, z9, -⟩ := hSw.g; obtain ⟨bx, ox, ex, z10⟩ := hSw.r.rows.dn _ hi0; cases ex; obtain ⟨bx, ox, ex, z11⟩ := hSw.r.rows.up _ hk0; cases ex; obtain ⟨bx, ox, ex, z12⟩ := hSw.r.rows.up e he; cases ex; go_split_ands; go_simp <;> first | rfl | omega | (intro h; exfalso; omega)) ?_
          simp only [Act.put, List.setIfInBounds_toArray, List.set_cons_zero, List.set_cons_succ]
          refine takeH 6 (some 55) (.pointer (some ⟨w.heap.size, 5, none⟩)) rfl rfl (by kernel_rfl) (by kernel_rfl) (by kernel_rfl) (fun _ _ _ h => h) (by rfl) hS (fun w hSw => by obtain ⟨-, z0, z1, z2, z3, z4, z5, z6, z7, z8, z9, -⟩ := hSw.g; obtain ⟨bx, ox, ex, z10⟩ := hSw.r.rows.dn _ hi0; cases ex; obtain ⟨bx, ox, ex, z11⟩ := hSw.r.rows.up _ hk0; cases ex; obtain ⟨bx, ox, ex, z12⟩ := hSw.r.rows.up e he; cases ex; go_split_ands; go_simp <;> first | rfl | omega | (intro h; exfalso; omega)) ?_
          simp only [Act.put, List.setIfInBounds_toArray, List.set_cons_zero, List.set_cons_succ]
          refine takeH 7 (some 56) (.slice (some ⟨bv, ov, none⟩) m vcap) rfl rfl (by kernel_rfl) (by kernel_rfl) (by kernel_rfl) (fun _ _ _ h => h) (by rfl) hS (fun w hSw => by obtain ⟨-, z0, z1, z2, z3, z4, z5, z6, z7, z8, z9, -⟩ := hSw.g; obtain ⟨bx, ox, ex, z10⟩ := hSw.r.rows.dn _ hi0; cases ex; obtain ⟨bx, ox, ex, z11⟩ := hSw.r.rows.up _ hk0; cases ex; obtain ⟨bx, ox, ex, z12⟩ := hSw.r.rows.up e he; cases ex; go_split_ands; go_simp <;> first | rfl | omega | (intro h; exfalso; omega)) ?_
          simp only [Act.put, List.setIfInBounds_toArray, List.set_cons_zero, List.set_cons_succ]
          refine takeH 8 (some 57) (.int .i64 ((fnd L H v lo m : Nat) : Int)) rfl rfl (by kernel_rfl) (by kernel_rfl) (by kernel_rfl) (fun _ _ _ h => h) (by rfl) hS (fun w hSw => by obtain ⟨-, z0, z1, z2, z3, z4, z5, z6, z7, z8, z9, -⟩ := hSw.g; obtain ⟨bx, ox, ex, z10⟩ := hSw.r.rows.dn _ hi0; cases ex; obtain ⟨bx, ox, ex, z11⟩ := hSw.r.rows.up _ hk0; cases ex; obtain ⟨bx, ox, ex, z12⟩ := hSw.r.rows.up e he; cases ex; go_split_ands; go_simp <;> first | rfl | omega | (intro h; exfalso; omega)) ?_
          simp only [Act.put, List.setIfInBounds_toArray, List.set_cons_zero, List.set_cons_succ]
          refine takeH 9 (some 58) (.pointer (some ⟨bv, ov + fnd L H v lo m, none⟩)) rfl rfl (by kernel_rfl) (by kernel_rfl) (by kernel_rfl) (fun _ _ _ h => h) (by rfl) hS (fun w hSw => by obtain ⟨-, z0, z1, z2, z3, z4, z5, z6, z7, z8, z9, -⟩ := hSw.g; obtain ⟨bx, ox, ex, z10⟩ := hSw.r.rows.dn _ hi0; cases ex; obtain ⟨bx, ox, ex, z11⟩ := hSw.r.rows.up _ hk0; cases ex; obtain ⟨bx, ox, ex, z12⟩ := hSw.r.rows.up e he; cases ex; go_split_ands; go_simp <;> first | rfl | omega | (intro h; exfalso; omega)) ?_
          simp only [Act.put, List.setIfInBounds_toArray, List.set_cons_zero, List.set_cons_succ]
          refine takeH 10 (some 59) (.int .i64 (V (fnd L H v lo m))) rfl rfl (by kernel_rfl) (by kernel_rfl) (by kernel_rfl) (fun _ _ _ h => h) (by rfl) hS (fun w hSw => by obtain ⟨-, z0, z1, z2, z3, z4, z5, z6, z7, z8, z9, -⟩ := hSw.g; obtain ⟨bx, ox, ex, z10⟩ := hSw.r.rows.dn _ hi0; cases ex; obtain ⟨bx, ox, ex, z11⟩ := hSw.r.rows.up _ hk0; cases ex; obtain ⟨bx, ox, ex, z12⟩ := hSw.r.rows.up e he; cases ex; go_split_ands; go_simp <;> first | rfl | omega | (intro h; exfalso; omega)) ?_
          simp only [Act.put, List.setIfInBounds_toArray, List.set_cons_zero, List.set_cons_succ]
          refine takeH 11 (some 60) (.pointer (some ⟨w.heap.size, 4, none⟩)) rfl rfl (by kernel_rfl) (by kernel_rfl) (by kernel_rfl) (fun _ _ _ h => h) (by rfl) hS (fun w hSw => by obtain ⟨-, z0, z1, z2, z3, z4, z5, z6, z7, z8, z9, -⟩ := hSw.g; obtain ⟨bx, ox, ex, z10⟩ := hSw.r.rows.dn _ hi0; cases ex; obtain ⟨bx, ox, ex, z11⟩ := hSw.r.rows.up _ hk0; cases ex; obtain ⟨bx, ox, ex, z12⟩ := hSw.r.rows.up e he; cases ex; go_split_ands; go_simp <;> first | rfl | omega | (intro h; exfalso; omega)) ?_
          simp only [Act.put, List.setIfInBounds_toArray, List.set_cons_zero, List.set_cons_succ]
          refine takeH 12 (some 61) (.pointer (some ⟨w.heap.size, 4, none⟩)) rfl rfl (by kernel_rfl) (by kernel_rfl) (by kernel_rfl) (fun _ _ _ h => h) (by rfl) hS (fun w hSw => by obtain ⟨-, z0, z1, z2, z3, z4, z5, z6, z7, z8, z9, -⟩ := hSw.g; obtain ⟨bx, ox, ex, z10⟩ := hSw.r.rows.dn _ hi0; cases ex; obtain ⟨bx, ox, ex, z11⟩ := hSw.r.rows.up _ hk0; cases ex; obtain ⟨bx, ox, ex, z12⟩ := hSw.r.rows.up e he; cases ex; go_split_ands; go_simp <;> first | rfl | omega | (intro h; exfalso; omega)) ?_
          simp only [Act.put, List.setIfInBounds_toArray, List.set_cons_zero, List.set_cons_succ]
          refine takeH 13 (some 62) (.slice (some ⟨bu, ou, none⟩) m ucap) rfl rfl (by kernel_rfl) (by kernel_rfl) (by kernel_rfl) (fun _ _ _ h => h) (by rfl) hS (fun w hSw => by obtain ⟨-, z0, z1, z2, z3, z4, z5, z6, z7, z8, z9, -⟩ := hSw.g; obtain ⟨bx, ox, ex, z10⟩ := hSw.r.rows.dn _ hi0; cases ex; obtain ⟨bx, ox, ex, z11⟩ := hSw.r.rows.up _ hk0; cases ex; obtain ⟨bx, ox, ex, z12⟩ := hSw.r.rows.up e he; cases ex; go_split_ands; go_simp <;> first | rfl | omega | (intro h; exfalso; omega)) ?_
          simp only [Act.put, List.setIfInBounds_toArray, List.set_cons_zero, List.set_cons_succ]
          refine takeH 14 (some 63) (.int .i64 ((fnd L H v hi m : Nat) : Int)) rfl rfl (by kernel_rfl) (by kernel_rfl) (by kernel_rfl) (fun _ _ _ h => h) (by rfl) hS (fun w hSw => by obtain ⟨-, z0, z1, z2, z3, z4, z5, z6, z7, z8, z9, -⟩ := hSw.g; obtain ⟨bx, ox, ex, z10⟩ := hSw.r.rows.dn _ hi0; cases ex; obtain ⟨bx, ox, ex, z11⟩ := hSw.r.rows.up _ hk0; cases ex; obtain ⟨bx, ox, ex, z12⟩ := hSw.r.rows.up e he; cases ex; go_split_ands; go_simp <;> first | rfl | omega | (intro h; exfalso; omega)) ?_
          simp only [Act.put, List.setIfInBounds_toArray, List.set_cons_zero, List.set_cons_succ]
          refine takeH 15 (some 64) (.pointer (some ⟨bu, ou + fnd L H v hi m, none⟩)) rfl rfl (by kernel_rfl) (by kernel_rfl) (by kernel_rfl) (fun _ _ _ h => h) (by rfl) hS (fun w hSw => by obtain ⟨-, z0, z1, z2, z3, z4, z5, z6, z7, z8, z9, -⟩ := hSw.g; obtain ⟨bx, ox, ex, z10⟩ := hSw.r.rows.dn _ hi0; cases ex; obtain ⟨bx, ox, ex, z11⟩ := hSw.r.rows.up _ hk0; cases ex; obtain ⟨bx, ox, ex, z12⟩ := hSw.r.rows.up e he; cases ex; go_split_ands; go_simp <;> first | rfl | omega | (intro h; exfalso; omega)) ?_
          simp only [Act.put, List.setIfInBounds_toArray, List.set_cons_zero, List.set_cons_succ]
          refine takeH 16 (some 65) (.int .i64 (U (fnd L H v hi m))) rfl rfl (by kernel_rfl) (by kernel_rfl) (by kernel_rfl) (fun _ _ _ h => h) (by rfl) hS (fun w hSw => by obtain ⟨-, z0, z1, z2, z3, z4, z5, z6, z7, z8, z9, -⟩ := hSw.g; obtain ⟨bx, ox, ex, z10⟩ := hSw.r.rows.dn _ hi0; cases ex; obtain ⟨bx, ox, ex, z11⟩ := hSw.r.rows.up _ hk0; cases ex; obtain ⟨bx, ox, ex, z12⟩ := hSw.r.rows.up e he; cases ex; go_split_ands; go_simp <;> first | rfl | omega | (intro h; exfalso; omega)) ?_
          simp only [Act.put, List.setIfInBounds_toArray, List.set_cons_zero, List.set_cons_succ]
          refine takeH 18 (some 67) (.agg #[.int .i64 p, .slice ao n cap, .slice po k pcap, .slice eo m ecap, .slice (some ⟨bu, ou, none⟩) m ucap, .slice (some ⟨bv, ov, none⟩) m vcap, .map (some ma), .map (some me)]) rfl rfl (by kernel_rfl) (by kernel_rfl) (by kernel_rfl) (fun _ _ _ h => h) (by rfl) hS (fun w hSw => by obtain ⟨-, z0, z1, z2, z3, z4, z5, z6, z7, z8, z9, -⟩ := hSw.g; obtain ⟨bx, ox, ex, z10⟩ := hSw.r.rows.dn _ hi0; cases ex; obtain ⟨bx, ox, ex, z11⟩ := hSw.r.rows.up _ hk0; cases ex; obtain ⟨bx, ox, ex, z12⟩ := hSw.r.rows.up e he; cases ex; go_split_ands; go_simp <;> first | rfl | omega | (intro h; exfalso; omega)) ?_
          simp only [Act.put, List.setIfInBounds_toArray, List.set_cons_zero, List.set_cons_succ]
          refine takeH 19 (some 68) (.pointer (some ⟨w.heap.size + 1, 1, none⟩)) rfl rfl (by kernel_rfl) (by kernel_rfl) (by kernel_rfl) (fun _ _ _ h => h) (by rfl) hS (fun w hSw => by obtain ⟨-, z0, z1, z2, z3, z4, z5, z6, z7, z8, z9, -⟩ := hSw.g; obtain ⟨bx, ox, ex, z10⟩ := hSw.r.rows.dn _ hi0; cases ex; obtain ⟨bx, ox, ex, z11⟩ := hSw.r.rows.up _ hk0; cases ex; obtain ⟨bx, ox, ex, z12⟩ := hSw.r.rows.up e he; cases ex; go_split_ands; go_simp <;> first | rfl | omega | (intro h; exfalso; omega)) ?_
          simp only [Act.put, List.setIfInBounds_toArray, List.set_cons_zero, List.set_cons_succ]
          refine takeH 20 (some 69) (.bool true) rfl rfl (by kernel_rfl) (by kernel_rfl) (by kernel_rfl) (fun _ _ _ h => h) (by rfl) hS (fun w hSw => by obtain ⟨-, z0, z1, z2, z3, z4, z5, z6, z7, z8, z9, -⟩ := hSw.g; obtain ⟨bx, ox, ex, z10⟩ := hSw.r.rows.dn _ hi0; cases ex; obtain ⟨bx, ox, ex, z11⟩ := hSw.r.rows.up _ hk0; cases ex; obtain ⟨bx, ox, ex, z12⟩ := hSw.r.rows.up e he; cases ex; go_split_ands; go_simp <;> first | rfl | omega | (intro h; exfalso; omega)) ?_
          simp only [Act.put, List.setIfInBounds_toArray, List.set_cons_zero, List.set_cons_succ]
          refine takeH 22 (some 71) (.pointer (some ⟨w.heap.size + 1, 0, none⟩)) rfl rfl (by kernel_rfl) (by kernel_rfl) (by kernel_rfl) (fun _ _ _ h => h) (by rfl) hS (fun w hSw => by obtain ⟨-, z0, z1, z2, z3, z4, z5, z6, z7, z8, z9, -⟩ := hSw.g; obtain ⟨bx, ox, ex, z10⟩ := hSw.r.rows.dn _ hi0; cases ex; obtain ⟨bx, ox, ex, z11⟩ := hSw.r.rows.up _ hk0; cases ex; obtain ⟨bx, ox, ex, z12⟩ := hSw.r.rows.up e he; cases ex; go_split_ands; go_simp <;> first | rfl | omega | (intro h; exfalso; omega)) ?_
          simp only [Act.put, List.setIfInBounds_toArray, List.set_cons_zero, List.set_cons_succ]
          refine takeH 23 (some 72) (.int .i64 (e : Int)) rfl rfl (by kernel_rfl) (by kernel_rfl) (by kernel_rfl) (fun _ _ _ h => h) (by rfl) hS (fun w hSw => by obtain ⟨-, z0, z1, z2, z3, z4, z5, z6, z7, z8, z9, -⟩ := hSw.g; obtain ⟨bx, ox, ex, z10⟩ := hSw.r.rows.dn _ hi0; cases ex; obtain ⟨bx, ox, ex, z11⟩ := hSw.r.rows.up _ hk0; cases ex; obtain ⟨bx, ox, ex, z12⟩ := hSw.r.rows.up e he; cases ex; go_split_ands; go_simp <;> first | rfl | omega | (intro h; exfalso; omega)) ?_
          simp only [Act.put, List.setIfInBounds_toArray, List.set_cons_zero, List.set_cons_succ]
          refine step1H 17 _ rfl (by kernel_rfl) (by rfl) ?_
          go_simp
          refine (plus_any (V (fnd L H v lo m)) (U (fnd L H v hi m)) (D.dn _ hi0).1 (D.dn _ hi0).2 (D.up _ hk0).1 (D.up _ hk0).2 _).mono ?_
          rintro x y1 ⟨rfl, rfl⟩
          refine ⟨hS, ?_⟩
          refine step1H 21 _ rfl (by kernel_rfl) (by rfl) ?_
          go_simp
          refine (weights_any _ _ _ _ _ _ _ _ _ _ _ _ _ _ _ _ true _).mono ?_
          simp only [if_true, if_false, Bool.false_eq_true]
          rintro x y2 ⟨rfl, hy2⟩
          have hS1 : (fun w' => H8 w w' p ao n cap F T G po k pcap P eo m ecap L H (some ⟨bu, ou, none⟩) ucap U (some ⟨bv, ov, none⟩) vcap V ma me e true) y2 := H8.next hS hy2
          refine ⟨hS1, ?_⟩
          refine takeH 24 (some 73) (.pointer (some ⟨bu, ou + e, none⟩)) rfl rfl (by kernel_rfl) (by kernel_rfl) (by kernel_rfl) (fun _ _ _ h => h) (by rfl) hS1 (fun w hSw => by obtain ⟨-, z0, z1, z2, z3, z4, z5, z6, z7, z8, z9, -⟩ := hSw.g; obtain ⟨bx, ox, ex, z10⟩ := hSw.r.rows.dn _ hi0; cases ex; obtain ⟨bx, ox, ex, z11⟩ := hSw.r.rows.up _ hk0; cases ex; obtain ⟨bx, ox, ex, z12⟩ := hSw.r.rows.up e he; cases ex; go_split_ands; go_simp <;> first | rfl | omega | (intro h; exfalso; omega)) ?_
          simp only [Act.put, List.setIfInBounds_toArray, List.set_cons_zero, List.set_cons_succ]
          refine takeH 25 (some 74) (.int .i64 (U e)) rfl rfl (by kernel_rfl) (by kernel_rfl) (by kernel_rfl) (fun _ _ _ h => h) (by rfl) hS1 (fun w hSw => by obtain ⟨-, z0, z1, z2, z3, z4, z5, z6, z7, z8, z9, -⟩ := hSw.g; obtain ⟨bx, ox, ex, z10⟩ := hSw.r.rows.dn _ hi0; cases ex; obtain ⟨bx, ox, ex, z11⟩ := hSw.r.rows.up _ hk0; cases ex; obtain ⟨bx, ox, ex, z12⟩ := hSw.r.rows.up e he; cases ex; go_split_ands; go_simp <;> first | rfl | omega | (intro h; exfalso; omega)) ?_
          simp only [Act.put, List.setIfInBounds_toArray, List.set_cons_zero, List.set_cons_succ]
          refine takeH 26 (some 75) (.bool false) rfl rfl (by kernel_rfl) (by kernel_rfl) (by kernel_rfl) (fun _ _ _ h => h) (by rfl) hS1 (fun w hSw => by obtain ⟨-, z0, z1, z2, z3, z4, z5, z6, z7, z8, z9, -⟩ := hSw.g; obtain ⟨bx, ox, ex, z10⟩ := hSw.r.rows.dn _ hi0; cases ex; obtain ⟨bx, ox, ex, z11⟩ := hSw.r.rows.up _ hk0; cases ex; obtain ⟨bx, ox, ex, z12⟩ := hSw.r.rows.up e he; cases ex; go_split_ands; go_simp <;> first | rfl | omega | (intro h; exfalso; omega)) ?_
          simp only [Act.put, List.setIfInBounds_toArray, List.set_cons_zero, List.set_cons_succ]
          refine takeH 27 (some 76) (.bool false) rfl rfl (by kernel_rfl) (by kernel_rfl) (by kernel_rfl) (fun _ _ _ h => h) (by rfl) hS1 (fun w hSw => by obtain ⟨-, z0, z1, z2, z3, z4, z5, z6, z7, z8, z9, -⟩ := hSw.g; obtain ⟨bx, ox, ex, z10⟩ := hSw.r.rows.dn _ hi0; cases ex; obtain ⟨bx, ox, ex, z11⟩ := hSw.r.rows.up _ hk0; cases ex; obtain ⟨bx, ox, ex, z12⟩ := hSw.r.rows.up e he; cases ex; go_split_ands; go_simp <;> first | rfl | omega | (intro h; exfalso; omega)) ?_
          simp only [Act.put, List.setIfInBounds_toArray, List.set_cons_zero, List.set_cons_succ]
          refine wpAnyH_done (by kernel_rfl) ?_ _
          go_wp2
          go_roundw
          case rel => exact ⟨v + 1, by omega, by go_num, hf, hS1⟩
          case measure => simp [intOf]; omega

end Go.Proofs.YtokaechbmnbbiabGreat
