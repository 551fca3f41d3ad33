/-
  The program's guide: is a step an arc of its own?
-/
import Derived.Test.YtokaechbmnbbiabGreatUnGP
import Derived.Test.YtokaechbmnbbiabGreatPack4
set_option linter.unusedVariables false
set_option linter.unusedSimpArgs false
namespace Go.Proofs.YtokaechbmnbbiabGreat
open Go.RowKit Go.Maps
attribute [local go_sem ↓] Go.wp_at_zero Go.wp_at_succ

structure G8 (w W : World) (p : Int) (ao : Option Addr) (n cap : Nat) (po : Option Addr) (k pcap : Nat) (eo : Option Addr) (m ecap : Nat) (uo : Option Addr) (ucap : Nat) (vo : Option Addr) (vcap : Nat) (ma me : Nat) (e : Nat) (up : Bool) : Prop where
  bel : Below w.heap.size w W
  c0 : W.cell? ⟨w.heap.size, 0, none⟩ = some (.int .i64 p)
  c1 : W.cell? ⟨w.heap.size, 1, none⟩ = some (.slice ao n cap)
  c2 : W.cell? ⟨w.heap.size, 2, none⟩ = some (.slice po k pcap)
  c3 : W.cell? ⟨w.heap.size, 3, none⟩ = some (.slice eo m ecap)
  c4 : W.cell? ⟨w.heap.size, 4, none⟩ = some (.slice uo m ucap)
  c5 : W.cell? ⟨w.heap.size, 5, none⟩ = some (.slice vo m vcap)
  c6 : W.cell? ⟨w.heap.size, 6, none⟩ = some (.map (some ma))
  c7 : W.cell? ⟨w.heap.size, 7, none⟩ = some (.map (some me))
  s0 : W.cell? ⟨w.heap.size + 1, 0, none⟩ = some (.int .i64 (e : Int))
  s1 : W.cell? ⟨w.heap.size + 1, 1, none⟩ = some (.bool up)
  sz : w.heap.size + 2 ≤ W.heap.size
theorem g8_new (w : World) {p : Int} {ao : Option Addr} {n cap : Nat} {po : Option Addr} {k pcap : Nat} {eo : Option Addr} {m ecap : Nat} {uo : Option Addr} {ucap : Nat} {vo : Option Addr} {vcap : Nat} {ma me : Nat} {e : Nat} {up : Bool} : G8 w ((w.alloc (.cells #[.int .i64 p, .slice ao n cap, .slice po k pcap, .slice eo m ecap, .slice uo m ucap, .slice vo m vcap, .map (some ma), .map (some me)] 98)).alloc (.cells #[.int .i64 (e : Int), .bool up] 104)) p ao n cap po k pcap eo m ecap uo ucap vo vcap ma me e up :=
  ⟨((Below.refl _ _).alloc (Nat.le_refl _) _).alloc (by simp) _, by simp [go_sem], by simp [go_sem], by simp [go_sem], by simp [go_sem], by simp [go_sem], by simp [go_sem], by simp [go_sem], by simp [go_sem], by simp [go_sem], by simp [go_sem], by simp⟩
theorem G8.next {w W W' : World} {p : Int} {ao : Option Addr} {n cap : Nat} {po : Option Addr} {k pcap : Nat} {eo : Option Addr} {m ecap : Nat} {uo : Option Addr} {ucap : Nat} {vo : Option Addr} {vcap : Nat} {ma me : Nat} {e : Nat} {up : Bool} (h : G8 w W p ao n cap po k pcap eo m ecap uo ucap vo vcap ma me e up) (hb : Below W.heap.size W W') : G8 w W' p ao n cap po k pcap eo m ecap uo ucap vo vcap ma me e up :=
  ⟨below_next h.bel (Nat.le_refl _) hb, keep_cell hb (Nat.le_refl _) h.c0, keep_cell hb (Nat.le_refl _) h.c1, keep_cell hb (Nat.le_refl _) h.c2, keep_cell hb (Nat.le_refl _) h.c3, keep_cell hb (Nat.le_refl _) h.c4, keep_cell hb (Nat.le_refl _) h.c5, keep_cell hb (Nat.le_refl _) h.c6, keep_cell hb (Nat.le_refl _) h.c7, keep_cell hb (Nat.le_refl _) h.s0, keep_cell hb (Nat.le_refl _) h.s1, Nat.le_trans h.sz hb.size⟩

def litI : DataW Unit → Int
  | .lit (.int _ c) => c
  | _ => 0
theorem look_ends {W : World} {ma n : Nat} {F T : Nat → Int} (h : W.ownsMap Tryz.prog 113 (plainElem Tryz.prog 3) ma n (nums F T n)) {a c : Int} (ha : (Lit.int .i64 a).wf = true) (hc : (Lit.int .i64 c).wf = true) :
    ∀ q, (Instr.lookup 96 (.map (some ma)) (.agg #[.int .i64 a, .int .i64 c]) true).run Tryz.prog (W.drewN q) = .ok (.tuple #[.int .i64 (litI ((nums F T n).atKey (kl a c) (.lit (.int .i64 0)))), .bool (Maps.has (nums F T n) (kl a c))]) (W.drewN q) := fun q => by
  obtain ⟨v, ps, hrun, hv⟩ := (ownsMap_block (w' := W.drewN q) h rfl).look_ok Tryz.keyLaw Tryz.underlying96 (Tryz.mapZero _) (plainElem_int Tryz.underlying3 (by decide)) (key_ends a c ha hc)
  obtain ⟨x, rfl, hx, _⟩ := plainElem_int_inv Tryz.underlying3 hv
  have hx1 := congrArg Prod.fst hx
  simp only at hx1
  rw [hrun, hx1]
  rfl
theorem look_edges {W : World} {me m : Nat} {L H : Nat → Int} (h : W.ownsMap Tryz.prog 62 (plainElem Tryz.prog 3) me m (enums L H m)) {a c : Int} (ha : (Lit.int .i64 a).wf = true) (hc : (Lit.int .i64 c).wf = true) :
    ∀ q, (Instr.lookup 84 (.map (some me)) (.agg #[.int .i64 a, .int .i64 c]) true).run Tryz.prog (W.drewN q) = .ok (.tuple #[.int .i64 (litI ((enums L H m).atKey (ekl a c) (.lit (.int .i64 0)))), .bool (Maps.has (enums L H m) (ekl a c))]) (W.drewN q) := fun q => by
  obtain ⟨v, ps, hrun, hv⟩ := (ownsMap_block (w' := W.drewN q) h rfl).look_ok Tryz.keyLawE Tryz.underlying84 (Tryz.mapZeroE _) (plainElem_int Tryz.underlying3 (by decide)) (key_edge a c ha hc)
  obtain ⟨x, rfl, hx, _⟩ := plainElem_int_inv Tryz.underlying3 hv
  have hx1 := congrArg Prod.fst hx
  simp only at hx1
  rw [hrun, hx1]
  rfl

set_option maxRecDepth 100000 in
set_option maxHeartbeats 4000000 in
theorem isArc_any (p : Int) (ao : Option Addr) (n cap : Nat) (F T G : Nat → Int) (po : Option Addr) (k pcap : Nat) (P : Nat → Int) (eo : Option Addr) (m ecap : Nat) (L H : Nat → Int) (uo : Option Addr) (ucap : Nat) (U : Nat → Int) (vo : Option Addr) (vcap : Nat) (V : Nat → Int) (ma me : Nat) (hn : n ≤ 1048576) (hk : k ≤ 1048576) (hm : m ≤ 1048576) (hA : arcsB p F T G n = true) (hwf : WfTo F T n) (hP : ∀ j, j < k → (Lit.int .i64 (P j)).wf = true) (e : Nat) (up : Bool) (he : e < m) (hL : 0 ≤ L e ∧ L e < k) (hH : 0 ≤ H e ∧ H e < k) (hfar : (if up = true then U e else V e) < 1000000000000) (w : World) (hr : GOn w ao n F T G po k P eo m L H uo U vo V ma me) :
    Calls Tryz.prog 130 #[(.agg #[.int .i64 p, .slice ao n cap, .slice po k pcap, .slice eo m ecap, .slice uo m ucap, .slice vo m vcap, .map (some ma), .map (some me)]), (.agg #[.int .i64 (e : Int), .bool up])] w fun x w' => x = .returned (.bool (decide (lastW F T G (P (if up = true then L e else H e).toNat) (P (if up = true then H e else L e).toNat) n = (if up = true then U e else V e)))) ∧ Below w.heap.size w w' := by
  cases up
  · simp only [if_true, if_false, Bool.false_eq_true] at hfar ⊢
    have B0 := g8_new w (p := p) (ao := ao) (n := n) (cap := cap) (po := po) (k := k) (pcap := pcap) (eo := eo) (m := m) (ecap := ecap) (uo := uo) (ucap := ucap) (vo := vo) (vcap := vcap) (ma := ma) (me := me) (e := e) (up := false)
    have hr0 := hr.next B0.bel
    obtain ⟨f, hf⟩ : ∃ f : Nat, H e = (f : Int) := ⟨(H e).toNat, by omega⟩
    obtain ⟨t, ht⟩ : ∃ t : Nat, L e = (t : Int) := ⟨(L e).toNat, by omega⟩
    have hfk : f < k := by omega
    have htk : t < k := by omega
    rw [hf, ht]
    simp only [Int.toNat_natCast]
    obtain ⟨b1, o1, rfl, _⟩ := hr0.rows.ord f hfk
    obtain ⟨b2, o2, rfl, _⟩ := hr0.rows.dn e he
    have l1 : (0 : Int) ≤ (f : Int) := by omega
    have l2 : (f : Int) < (k : Int) := by omega
    have l3 : (0 : Int) ≤ (t : Int) := by omega
    have l4 : (t : Int) < (k : Int) := by omega
    have l5 : (0 : Int) ≤ (e : Int) := by omega
    have l6 : (e : Int) < (m : Int) := by omega
    have hlook := nums_look F T (P f) (P t) (hP f hfk) (hP t htk) n hwf
    generalize hX : litI ((nums F T n).atKey (kl (P f) (P t)) (.lit (.int .i64 0))) = X
    generalize hK : Maps.has (nums F T n) (kl (P f) (P t)) = K at hlook
    have hans : K = false ∧ lastW F T G (P f) (P t) n = 1000000000000 ∨ ∃ j : Nat, j < n ∧ K = true ∧ X = (j : Int) ∧ lastW F T G (P f) (P t) n = G j := by
      rcases hlook with ⟨h1, h2⟩ | ⟨j, hj, h1, h2, h3, h4⟩
      · exact Or.inl ⟨h1, lastW_none n h2⟩
      · refine Or.inr ⟨j, hj, h3, ?_, lastW_at n (fun i hi e1 e2 => unique hA hi hj (e1.trans h1.symm) (e2.trans h2.symm)) hj h1 h2⟩
        rw [← hX, h4]
        rfl
    clear hlook
    go_enter Tryz.func130, Tryz.ntmps130
    go_wp2_with fail
    generalize ((w.alloc (.cells #[.int .i64 p, .slice ao n cap, .slice (some ⟨b1, o1, none⟩) k pcap, .slice eo m ecap, .slice uo m ucap, .slice (some ⟨b2, o2, none⟩) m vcap, .map (some ma), .map (some me)] 98)).alloc (.cells #[.int .i64 (e : Int), .bool false] 104)) = W at B0 hr0 ⊢
    refine (ranks_any _ _ _ _ _ _ _ _ _ _ _ _ _ _ _ _ L H e false he hm _ hr0.rows.eds).mono ?_
    simp only [if_true, if_false, Bool.false_eq_true]
    rintro x w1 ⟨rfl, hb1⟩
    have B1 := B0.next hb1
    have hr1 := hr0.next hb1
    clear B0 hr0
    have y0 := B1.c2
    have y1 := B1.c6
    rw [hf, ht]
    obtain ⟨b1', o1', e1', d1⟩ := hr1.rows.ord f hfk
    cases e1'
    obtain ⟨b1', o1', e1', d2⟩ := hr1.rows.ord t htk
    cases e1'
    have hlk := look_ends hr1.am (hP f hfk) (hP t htk)
    rw [hX, hK] at hlk
    clear hX hK
    go_wp2_with fail
    go_quiet (fail)
    clear hlk y0 y1 d1 d2
    go_wp2_with fail
    rcases hans with ⟨rfl, hY⟩ | ⟨j, hj, rfl, rfl, hY⟩
    · have u0 : True := trivial
      refine wp_region_held_drew (S := fun w' => G8 w w' p ao n cap (some ⟨b1, o1, none⟩) k pcap eo m ecap uo ucap (some ⟨b2, o2, none⟩) vcap ma me e false ∧ GOn w' ao n F T G (some ⟨b1, o1, none⟩) k P eo m L H uo U (some ⟨b2, o2, none⟩) V ma me) (by kernel_rfl) ⟨(B1.next (below_drewN (Below.refl _ _) _)).next (Below.refl _ _).drew, (hr1.next (below_drewN (Below.refl _ _) _)).next (Below.refl _ _).drew⟩ (fun hS => ?_)
      refine takeH 0 (some 34) (.bool false) rfl rfl (by kernel_rfl) (by kernel_rfl) (by kernel_rfl) (fun _ _ _ h => h) (by rfl) hS (fun w hSw => by obtain ⟨-, z0, z1, z2, z3, z4, z5, z6, z7, z8, z9, -⟩ := hSw.1; go_split_ands; go_simp <;> first | rfl | omega | (intro h; exfalso; omega)) ?_
      simp only [Act.put, List.setIfInBounds_toArray, List.set_cons_zero, List.set_cons_succ]
      refine takeH 1 (some 35) (.bool false) rfl rfl (by kernel_rfl) (by kernel_rfl) (by kernel_rfl) (fun _ _ _ h => h) (by rfl) hS (fun w hSw => by obtain ⟨-, z0, z1, z2, z3, z4, z5, z6, z7, z8, z9, -⟩ := hSw.1; go_split_ands; go_simp <;> first | rfl | omega | (intro h; exfalso; omega)) ?_
      simp only [Act.put, List.setIfInBounds_toArray, List.set_cons_zero, List.set_cons_succ]
      refine skipH 2 (some 36) rfl rfl (by kernel_rfl) (by kernel_rfl) (by kernel_rfl) (fun _ _ _ h => h) (by rfl) hS ?_
      simp only [Act.put, List.setIfInBounds_toArray, List.set_cons_zero, List.set_cons_succ]
      refine skipH 3 (some 37) rfl rfl (by kernel_rfl) (by kernel_rfl) (by kernel_rfl) (fun _ _ _ h => h) (by rfl) hS ?_
      simp only [Act.put, List.setIfInBounds_toArray, List.set_cons_zero, List.set_cons_succ]
      refine skipH 4 (some 38) rfl rfl (by kernel_rfl) (by kernel_rfl) (by kernel_rfl) (fun _ _ _ h => h) (by rfl) hS ?_
      simp only [Act.put, List.setIfInBounds_toArray, List.set_cons_zero, List.set_cons_succ]
      refine skipH 5 (some 39) rfl rfl (by kernel_rfl) (by kernel_rfl) (by kernel_rfl) (fun _ _ _ h => h) (by rfl) hS ?_
      simp only [Act.put, List.setIfInBounds_toArray, List.set_cons_zero, List.set_cons_succ]
      refine skipH 6 (some 40) rfl rfl (by kernel_rfl) (by kernel_rfl) (by kernel_rfl) (fun _ _ _ h => h) (by rfl) hS ?_
      simp only [Act.put, List.setIfInBounds_toArray, List.set_cons_zero, List.set_cons_succ]
      refine skipH 7 (some 41) rfl rfl (by kernel_rfl) (by kernel_rfl) (by kernel_rfl) (fun _ _ _ h => h) (by rfl) hS ?_
      simp only [Act.put, List.setIfInBounds_toArray, List.set_cons_zero, List.set_cons_succ]
      refine skipH 8 (some 42) rfl rfl (by kernel_rfl) (by kernel_rfl) (by kernel_rfl) (fun _ _ _ h => h) (by rfl) hS ?_
      simp only [Act.put, List.setIfInBounds_toArray, List.set_cons_zero, List.set_cons_succ]
      refine skipH 9 (some 43) rfl rfl (by kernel_rfl) (by kernel_rfl) (by kernel_rfl) (fun _ _ _ h => h) (by rfl) hS ?_
      simp only [Act.put, List.setIfInBounds_toArray, List.set_cons_zero, List.set_cons_succ]
      refine skipH 10 (some 44) rfl rfl (by kernel_rfl) (by kernel_rfl) (by kernel_rfl) (fun _ _ _ h => h) (by rfl) hS ?_
      simp only [Act.put, List.setIfInBounds_toArray, List.set_cons_zero, List.set_cons_succ]
      refine skipH 11 (some 45) rfl rfl (by kernel_rfl) (by kernel_rfl) (by kernel_rfl) (fun _ _ _ h => h) (by rfl) hS ?_
      simp only [Act.put, List.setIfInBounds_toArray, List.set_cons_zero, List.set_cons_succ]
      refine skipH 12 (some 46) rfl rfl (by kernel_rfl) (by kernel_rfl) (by kernel_rfl) (fun _ _ _ h => h) (by rfl) hS ?_
      simp only [Act.put, List.setIfInBounds_toArray, List.set_cons_zero, List.set_cons_succ]
      refine skipH 13 (some 47) rfl rfl (by kernel_rfl) (by kernel_rfl) (by kernel_rfl) (fun _ _ _ h => h) (by rfl) hS ?_
      simp only [Act.put, List.setIfInBounds_toArray, List.set_cons_zero, List.set_cons_succ]
      refine skipH 14 (some 48) rfl rfl (by kernel_rfl) (by kernel_rfl) (by kernel_rfl) (fun _ _ _ h => h) (by rfl) hS ?_
      simp only [Act.put, List.setIfInBounds_toArray, List.set_cons_zero, List.set_cons_succ]
      refine skipH 15 (some 49) rfl rfl (by kernel_rfl) (by kernel_rfl) (by kernel_rfl) (fun _ _ _ h => h) (by rfl) hS ?_
      simp only [Act.put, List.setIfInBounds_toArray, List.set_cons_zero, List.set_cons_succ]
      refine skipH 16 (some 50) rfl rfl (by kernel_rfl) (by kernel_rfl) (by kernel_rfl) (fun _ _ _ h => h) (by rfl) hS ?_
      simp only [Act.put, List.setIfInBounds_toArray, List.set_cons_zero, List.set_cons_succ]
      refine skipH 17 (some 51) rfl rfl (by kernel_rfl) (by kernel_rfl) (by kernel_rfl) (fun _ _ _ h => h) (by rfl) hS ?_
      simp only [Act.put, List.setIfInBounds_toArray, List.set_cons_zero, List.set_cons_succ]
      refine takeH 18 (some 52) (.bool false) rfl rfl (by kernel_rfl) (by kernel_rfl) (by kernel_rfl) (fun _ _ _ h => h) (by rfl) hS (fun w hSw => by obtain ⟨-, z0, z1, z2, z3, z4, z5, z6, z7, z8, z9, -⟩ := hSw.1; go_split_ands; go_simp <;> first | rfl | omega | (intro h; exfalso; omega)) ?_
      simp only [Act.put, List.setIfInBounds_toArray, List.set_cons_zero, List.set_cons_succ]
      refine takeH 19 (some 4) (.bool false) rfl rfl (by kernel_rfl) (by kernel_rfl) (by kernel_rfl) (fun _ _ _ h => h) (by rfl) hS (fun w hSw => by obtain ⟨-, z0, z1, z2, z3, z4, z5, z6, z7, z8, z9, -⟩ := hSw.1; go_split_ands; go_simp <;> first | rfl | omega | (intro h; exfalso; omega)) ?_
      simp only [Act.put, List.setIfInBounds_toArray, List.set_cons_zero, List.set_cons_succ]
      refine wpAnyH_done (by kernel_rfl) ?_ _
      go_wp2
      go_ret
      refine ⟨?_, hS.1.bel⟩
      have hne : ¬ lastW F T G (P f) (P t) n = V e := by rw [hY]; omega
      simp [hne]
    · obtain ⟨b3, o3, rfl, _⟩ := hr1.rows.arcs j hj
      have l7 : (0 : Int) ≤ (j : Int) := by omega
      have l8 : (j : Int) < (n : Int) := by omega
      refine wp_region_held_drew (S := fun w' => G8 w w' p (some ⟨b3, o3, none⟩) n cap (some ⟨b1, o1, none⟩) k pcap eo m ecap uo ucap (some ⟨b2, o2, none⟩) vcap ma me e false ∧ GOn w' (some ⟨b3, o3, none⟩) n F T G (some ⟨b1, o1, none⟩) k P eo m L H uo U (some ⟨b2, o2, none⟩) V ma me) (by kernel_rfl) ⟨(B1.next (below_drewN (Below.refl _ _) _)).next (Below.refl _ _).drew, (hr1.next (below_drewN (Below.refl _ _) _)).next (Below.refl _ _).drew⟩ (fun hS => ?_)
      refine takeH 0 (some 34) (.bool true) rfl rfl (by kernel_rfl) (by kernel_rfl) (by kernel_rfl) (fun _ _ _ h => h) (by rfl) hS (fun w hSw => by obtain ⟨-, z0, z1, z2, z3, z4, z5, z6, z7, z8, z9, -⟩ := hSw.1; obtain ⟨bx, ox, ex, _, _, z10⟩ := hSw.2.rows.arcs j hj; cases ex; obtain ⟨bx, ox, ex, z11⟩ := hSw.2.rows.dn e he; cases ex; go_split_ands; go_simp <;> first | rfl | omega | (intro h; exfalso; omega)) ?_
      simp only [Act.put, List.setIfInBounds_toArray, List.set_cons_zero, List.set_cons_succ]
      refine takeH 1 (some 35) (.bool true) rfl rfl (by kernel_rfl) (by kernel_rfl) (by kernel_rfl) (fun _ _ _ h => h) (by rfl) hS (fun w hSw => by obtain ⟨-, z0, z1, z2, z3, z4, z5, z6, z7, z8, z9, -⟩ := hSw.1; obtain ⟨bx, ox, ex, _, _, z10⟩ := hSw.2.rows.arcs j hj; cases ex; obtain ⟨bx, ox, ex, z11⟩ := hSw.2.rows.dn e he; cases ex; go_split_ands; go_simp <;> first | rfl | omega | (intro h; exfalso; omega)) ?_
      simp only [Act.put, List.setIfInBounds_toArray, List.set_cons_zero, List.set_cons_succ]
      refine takeH 2 (some 36) (.pointer (some ⟨w.heap.size, 0, none⟩)) rfl rfl (by kernel_rfl) (by kernel_rfl) (by kernel_rfl) (fun _ _ _ h => h) (by rfl) hS (fun w hSw => by obtain ⟨-, z0, z1, z2, z3, z4, z5, z6, z7, z8, z9, -⟩ := hSw.1; obtain ⟨bx, ox, ex, _, _, z10⟩ := hSw.2.rows.arcs j hj; cases ex; obtain ⟨bx, ox, ex, z11⟩ := hSw.2.rows.dn e he; cases ex; go_split_ands; go_simp <;> first | rfl | omega | (intro h; exfalso; omega)) ?_
      simp only [Act.put, List.setIfInBounds_toArray, List.set_cons_zero, List.set_cons_succ]
      refine takeH 3 (some 37) (.pointer (some ⟨w.heap.size, 1, none⟩)) rfl rfl (by kernel_rfl) (by kernel_rfl) (by kernel_rfl) (fun _ _ _ h => h) (by rfl) hS (fun w hSw => by obtain ⟨-, z0, z1, z2, z3, z4, z5, z6, z7, z8, z9, -⟩ := hSw.1; obtain ⟨bx, ox, ex, _, _, z10⟩ := hSw.2.rows.arcs j hj; cases ex; obtain ⟨bx, ox, ex, z11⟩ := hSw.2.rows.dn e he; cases ex; go_split_ands; go_simp <;> first | rfl | omega | (intro h; exfalso; omega)) ?_
      simp only [Act.put, List.setIfInBounds_toArray, List.set_cons_zero, List.set_cons_succ]
      refine takeH 4 (some 38) (.slice (some ⟨b3, o3, none⟩) n cap) rfl rfl (by kernel_rfl) (by kernel_rfl) (by kernel_rfl) (fun _ _ _ h => h) (by rfl) hS (fun w hSw => by obtain ⟨-, z0, z1, z2, z3, z4, z5, z6, z7, z8, z9, -⟩ := hSw.1; obtain ⟨bx, ox, ex, _, _, z10⟩ := hSw.2.rows.arcs j hj; cases ex; obtain ⟨bx, ox, ex, z11⟩ := hSw.2.rows.dn e he; cases ex; go_split_ands; go_simp <;> first | rfl | omega | (intro h; exfalso; omega)) ?_
      simp only [Act.put, List.setIfInBounds_toArray, List.set_cons_zero, List.set_cons_succ]
      refine takeH 5 (some 39) (.int .i64 (j : Int)) rfl rfl (by kernel_rfl) (by kernel_rfl) (by kernel_rfl) (fun _ _ _ h => h) (by rfl) hS (fun w hSw => by obtain ⟨-, z0, z1, z2, z3, z4, z5, z6, z7, z8, z9, -⟩ := hSw.1; obtain ⟨bx, ox, ex, _, _, z10⟩ := hSw.2.rows.arcs j hj; cases ex; obtain ⟨bx, ox, ex, z11⟩ := hSw.2.rows.dn e he; cases ex; go_split_ands; go_simp <;> first | rfl | omega | (intro h; exfalso; omega)) ?_
      simp only [Act.put, List.setIfInBounds_toArray, List.set_cons_zero, List.set_cons_succ]
      refine takeH 6 (some 40) (.pointer (some ⟨b3, o3 + j * 3, none⟩)) rfl rfl (by kernel_rfl) (by kernel_rfl) (by kernel_rfl) (fun _ _ _ h => h) (by rfl) hS (fun w hSw => by obtain ⟨-, z0, z1, z2, z3, z4, z5, z6, z7, z8, z9, -⟩ := hSw.1; obtain ⟨bx, ox, ex, _, _, z10⟩ := hSw.2.rows.arcs j hj; cases ex; obtain ⟨bx, ox, ex, z11⟩ := hSw.2.rows.dn e he; cases ex; go_split_ands; go_simp <;> first | rfl | omega | (intro h; exfalso; omega)) ?_
      simp only [Act.put, List.setIfInBounds_toArray, List.set_cons_zero, List.set_cons_succ]
      refine takeH 7 (some 41) (.pointer (some ⟨b3, o3 + j * 3 + 2, none⟩)) rfl rfl (by kernel_rfl) (by kernel_rfl) (by kernel_rfl) (fun _ _ _ h => h) (by rfl) hS (fun w hSw => by obtain ⟨-, z0, z1, z2, z3, z4, z5, z6, z7, z8, z9, -⟩ := hSw.1; obtain ⟨bx, ox, ex, _, _, z10⟩ := hSw.2.rows.arcs j hj; cases ex; obtain ⟨bx, ox, ex, z11⟩ := hSw.2.rows.dn e he; cases ex; go_split_ands; go_simp <;> first | rfl | omega | (intro h; exfalso; omega)) ?_
      simp only [Act.put, List.setIfInBounds_toArray, List.set_cons_zero, List.set_cons_succ]
      refine takeH 8 (some 42) (.int .i64 (G j)) rfl rfl (by kernel_rfl) (by kernel_rfl) (by kernel_rfl) (fun _ _ _ h => h) (by rfl) hS (fun w hSw => by obtain ⟨-, z0, z1, z2, z3, z4, z5, z6, z7, z8, z9, -⟩ := hSw.1; obtain ⟨bx, ox, ex, _, _, z10⟩ := hSw.2.rows.arcs j hj; cases ex; obtain ⟨bx, ox, ex, z11⟩ := hSw.2.rows.dn e he; cases ex; go_split_ands; go_simp <;> first | rfl | omega | (intro h; exfalso; omega)) ?_
      simp only [Act.put, List.setIfInBounds_toArray, List.set_cons_zero, List.set_cons_succ]
      refine takeH 9 (some 43) (.agg #[.int .i64 p, .slice (some ⟨b3, o3, none⟩) n cap, .slice (some ⟨b1, o1, none⟩) k pcap, .slice eo m ecap, .slice uo m ucap, .slice (some ⟨b2, o2, none⟩) m vcap, .map (some ma), .map (some me)]) rfl rfl (by kernel_rfl) (by kernel_rfl) (by kernel_rfl) (fun _ _ _ h => h) (by rfl) hS (fun w hSw => by obtain ⟨-, z0, z1, z2, z3, z4, z5, z6, z7, z8, z9, -⟩ := hSw.1; obtain ⟨bx, ox, ex, _, _, z10⟩ := hSw.2.rows.arcs j hj; cases ex; obtain ⟨bx, ox, ex, z11⟩ := hSw.2.rows.dn e he; cases ex; go_split_ands; go_simp <;> first | rfl | omega | (intro h; exfalso; omega)) ?_
      simp only [Act.put, List.setIfInBounds_toArray, List.set_cons_zero, List.set_cons_succ]
      refine takeH 10 (some 44) (.pointer (some ⟨w.heap.size + 1, 1, none⟩)) rfl rfl (by kernel_rfl) (by kernel_rfl) (by kernel_rfl) (fun _ _ _ h => h) (by rfl) hS (fun w hSw => by obtain ⟨-, z0, z1, z2, z3, z4, z5, z6, z7, z8, z9, -⟩ := hSw.1; obtain ⟨bx, ox, ex, _, _, z10⟩ := hSw.2.rows.arcs j hj; cases ex; obtain ⟨bx, ox, ex, z11⟩ := hSw.2.rows.dn e he; cases ex; go_split_ands; go_simp <;> first | rfl | omega | (intro h; exfalso; omega)) ?_
      simp only [Act.put, List.setIfInBounds_toArray, List.set_cons_zero, List.set_cons_succ]
      refine takeH 11 (some 45) (.bool false) rfl rfl (by kernel_rfl) (by kernel_rfl) (by kernel_rfl) (fun _ _ _ h => h) (by rfl) hS (fun w hSw => by obtain ⟨-, z0, z1, z2, z3, z4, z5, z6, z7, z8, z9, -⟩ := hSw.1; obtain ⟨bx, ox, ex, _, _, z10⟩ := hSw.2.rows.arcs j hj; cases ex; obtain ⟨bx, ox, ex, z11⟩ := hSw.2.rows.dn e he; cases ex; go_split_ands; go_simp <;> first | rfl | omega | (intro h; exfalso; omega)) ?_
      simp only [Act.put, List.setIfInBounds_toArray, List.set_cons_zero, List.set_cons_succ]
      refine takeH 13 (some 47) (.pointer (some ⟨w.heap.size + 1, 0, none⟩)) rfl rfl (by kernel_rfl) (by kernel_rfl) (by kernel_rfl) (fun _ _ _ h => h) (by rfl) hS (fun w hSw => by obtain ⟨-, z0, z1, z2, z3, z4, z5, z6, z7, z8, z9, -⟩ := hSw.1; obtain ⟨bx, ox, ex, _, _, z10⟩ := hSw.2.rows.arcs j hj; cases ex; obtain ⟨bx, ox, ex, z11⟩ := hSw.2.rows.dn e he; cases ex; go_split_ands; go_simp <;> first | rfl | omega | (intro h; exfalso; omega)) ?_
      simp only [Act.put, List.setIfInBounds_toArray, List.set_cons_zero, List.set_cons_succ]
      refine takeH 14 (some 48) (.int .i64 (e : Int)) rfl rfl (by kernel_rfl) (by kernel_rfl) (by kernel_rfl) (fun _ _ _ h => h) (by rfl) hS (fun w hSw => by obtain ⟨-, z0, z1, z2, z3, z4, z5, z6, z7, z8, z9, -⟩ := hSw.1; obtain ⟨bx, ox, ex, _, _, z10⟩ := hSw.2.rows.arcs j hj; cases ex; obtain ⟨bx, ox, ex, z11⟩ := hSw.2.rows.dn e he; cases ex; go_split_ands; go_simp <;> first | rfl | omega | (intro h; exfalso; omega)) ?_
      simp only [Act.put, List.setIfInBounds_toArray, List.set_cons_zero, List.set_cons_succ]
      refine step1H 12 _ rfl (by kernel_rfl) (by rfl) ?_
      go_simp
      refine (weights_any _ _ _ _ _ _ _ _ _ _ _ _ _ _ _ _ false _).mono ?_
      simp only [if_true, if_false, Bool.false_eq_true]
      rintro x y1 ⟨rfl, hy1⟩
      have hS1 : (fun w' => G8 w w' p (some ⟨b3, o3, none⟩) n cap (some ⟨b1, o1, none⟩) k pcap eo m ecap uo ucap (some ⟨b2, o2, none⟩) vcap ma me e false ∧ GOn w' (some ⟨b3, o3, none⟩) n F T G (some ⟨b1, o1, none⟩) k P eo m L H uo U (some ⟨b2, o2, none⟩) V ma me) y1 := ⟨hS.1.next hy1, hS.2.next hy1⟩
      refine ⟨hS1, ?_⟩
      refine takeH 15 (some 49) (.pointer (some ⟨b2, o2 + e, none⟩)) rfl rfl (by kernel_rfl) (by kernel_rfl) (by kernel_rfl) (fun _ _ _ h => h) (by rfl) hS1 (fun w hSw => by obtain ⟨-, z0, z1, z2, z3, z4, z5, z6, z7, z8, z9, -⟩ := hSw.1; obtain ⟨bx, ox, ex, _, _, z10⟩ := hSw.2.rows.arcs j hj; cases ex; obtain ⟨bx, ox, ex, z11⟩ := hSw.2.rows.dn e he; cases ex; go_split_ands; go_simp <;> first | rfl | omega | (intro h; exfalso; omega)) ?_
      simp only [Act.put, List.setIfInBounds_toArray, List.set_cons_zero, List.set_cons_succ]
      refine takeH 16 (some 50) (.int .i64 (V e)) rfl rfl (by kernel_rfl) (by kernel_rfl) (by kernel_rfl) (fun _ _ _ h => h) (by rfl) hS1 (fun w hSw => by obtain ⟨-, z0, z1, z2, z3, z4, z5, z6, z7, z8, z9, -⟩ := hSw.1; obtain ⟨bx, ox, ex, _, _, z10⟩ := hSw.2.rows.arcs j hj; cases ex; obtain ⟨bx, ox, ex, z11⟩ := hSw.2.rows.dn e he; cases ex; go_split_ands; go_simp <;> first | rfl | omega | (intro h; exfalso; omega)) ?_
      simp only [Act.put, List.setIfInBounds_toArray, List.set_cons_zero, List.set_cons_succ]
      refine takeH 17 (some 51) (.bool (decide (G j = V e))) rfl rfl (by kernel_rfl) (by kernel_rfl) (by kernel_rfl) (fun _ _ _ h => h) (by rfl) hS1 (fun w hSw => by obtain ⟨-, z0, z1, z2, z3, z4, z5, z6, z7, z8, z9, -⟩ := hSw.1; obtain ⟨bx, ox, ex, _, _, z10⟩ := hSw.2.rows.arcs j hj; cases ex; obtain ⟨bx, ox, ex, z11⟩ := hSw.2.rows.dn e he; cases ex; go_split_ands; go_simp <;> first | rfl | omega | (intro h; exfalso; omega)) ?_
      simp only [Act.put, List.setIfInBounds_toArray, List.set_cons_zero, List.set_cons_succ]
      refine takeH 18 (some 52) (.bool (decide (G j = V e))) rfl rfl (by kernel_rfl) (by kernel_rfl) (by kernel_rfl) (fun _ _ _ h => h) (by rfl) hS1 (fun w hSw => by obtain ⟨-, z0, z1, z2, z3, z4, z5, z6, z7, z8, z9, -⟩ := hSw.1; obtain ⟨bx, ox, ex, _, _, z10⟩ := hSw.2.rows.arcs j hj; cases ex; obtain ⟨bx, ox, ex, z11⟩ := hSw.2.rows.dn e he; cases ex; go_split_ands; go_simp <;> first | rfl | omega | (intro h; exfalso; omega)) ?_
      simp only [Act.put, List.setIfInBounds_toArray, List.set_cons_zero, List.set_cons_succ]
      refine takeH 19 (some 4) (.bool (decide (G j = V e))) rfl rfl (by kernel_rfl) (by kernel_rfl) (by kernel_rfl) (fun _ _ _ h => h) (by rfl) hS1 (fun w hSw => by obtain ⟨-, z0, z1, z2, z3, z4, z5, z6, z7, z8, z9, -⟩ := hSw.1; obtain ⟨bx, ox, ex, _, _, z10⟩ := hSw.2.rows.arcs j hj; cases ex; obtain ⟨bx, ox, ex, z11⟩ := hSw.2.rows.dn e he; cases ex; go_split_ands; go_simp <;> first | rfl | omega | (intro h; exfalso; omega)) ?_
      simp only [Act.put, List.setIfInBounds_toArray, List.set_cons_zero, List.set_cons_succ]
      refine wpAnyH_done (by kernel_rfl) ?_ _
      go_wp2
      go_ret
      refine ⟨?_, hS1.1.bel⟩
      simp [hY]
  · simp only [if_true, if_false, Bool.false_eq_true] at hfar ⊢
    have B0 := g8_new w (p := p) (ao := ao) (n := n) (cap := cap) (po := po) (k := k) (pcap := pcap) (eo := eo) (m := m) (ecap := ecap) (uo := uo) (ucap := ucap) (vo := vo) (vcap := vcap) (ma := ma) (me := me) (e := e) (up := true)
    have hr0 := hr.next B0.bel
    obtain ⟨f, hf⟩ : ∃ f : Nat, L e = (f : Int) := ⟨(L e).toNat, by omega⟩
    obtain ⟨t, ht⟩ : ∃ t : Nat, H e = (t : Int) := ⟨(H e).toNat, by omega⟩
    have hfk : f < k := by omega
    have htk : t < k := by omega
    rw [hf, ht]
    simp only [Int.toNat_natCast]
    obtain ⟨b1, o1, rfl, _⟩ := hr0.rows.ord f hfk
    obtain ⟨b2, o2, rfl, _⟩ := hr0.rows.up e he
    have l1 : (0 : Int) ≤ (f : Int) := by omega
    have l2 : (f : Int) < (k : Int) := by omega
    have l3 : (0 : Int) ≤ (t : Int) := by omega
    have l4 : (t : Int) < (k : Int) := by omega
    have l5 : (0 : Int) ≤ (e : Int) := by omega
    have l6 : (e : Int) < (m : Int) := by omega
    have hlook := nums_look F T (P f) (P t) (hP f hfk) (hP t htk) n hwf
    generalize hX : litI ((nums F T n).atKey (kl (P f) (P t)) (.lit (.int .i64 0))) = X
    generalize hK : Maps.has (nums F T n) (kl (P f) (P t)) = K at hlook
    have hans : K = false ∧ lastW F T G (P f) (P t) n = 1000000000000 ∨ ∃ j : Nat, j < n ∧ K = true ∧ X = (j : Int) ∧ lastW F T G (P f) (P t) n = G j := by
      rcases hlook with ⟨h1, h2⟩ | ⟨j, hj, h1, h2, h3, h4⟩
      · exact Or.inl ⟨h1, lastW_none n h2⟩
      · refine Or.inr ⟨j, hj, h3, ?_, lastW_at n (fun i hi e1 e2 => unique hA hi hj (e1.trans h1.symm) (e2.trans h2.symm)) hj h1 h2⟩
        rw [← hX, h4]
        rfl
    clear hlook
    go_enter Tryz.func130, Tryz.ntmps130
    go_wp2_with fail
    generalize ((w.alloc (.cells #[.int .i64 p, .slice ao n cap, .slice (some ⟨b1, o1, none⟩) k pcap, .slice eo m ecap, .slice (some ⟨b2, o2, none⟩) m ucap, .slice vo m vcap, .map (some ma), .map (some me)] 98)).alloc (.cells #[.int .i64 (e : Int), .bool true] 104)) = W at B0 hr0 ⊢
    refine (ranks_any _ _ _ _ _ _ _ _ _ _ _ _ _ _ _ _ L H e true he hm _ hr0.rows.eds).mono ?_
    simp only [if_true, if_false, Bool.false_eq_true]
    rintro x w1 ⟨rfl, hb1⟩
    have B1 := B0.next hb1
    have hr1 := hr0.next hb1
    clear B0 hr0
    have y0 := B1.c2
    have y1 := B1.c6
    rw [hf, ht]
    obtain ⟨b1', o1', e1', d1⟩ := hr1.rows.ord f hfk
    cases e1'
    obtain ⟨b1', o1', e1', d2⟩ := hr1.rows.ord t htk
    cases e1'
    have hlk := look_ends hr1.am (hP f hfk) (hP t htk)
    rw [hX, hK] at hlk
    clear hX hK
    go_wp2_with fail
    go_quiet (fail)
    clear hlk y0 y1 d1 d2
    go_wp2_with fail
    rcases hans with ⟨rfl, hY⟩ | ⟨j, hj, rfl, rfl, hY⟩
    · have u0 : True := trivial
      refine wp_region_held_drew (S := fun w' => G8 w w' p ao n cap (some ⟨b1, o1, none⟩) k pcap eo m ecap (some ⟨b2, o2, none⟩) ucap vo vcap ma me e true ∧ GOn w' ao n F T G (some ⟨b1, o1, none⟩) k P eo m L H (some ⟨b2, o2, none⟩) U vo V ma me) (by kernel_rfl) ⟨(B1.next (below_drewN (Below.refl _ _) _)).next (Below.refl _ _).drew, (hr1.next (below_drewN (Below.refl _ _) _)).next (Below.refl _ _).drew⟩ (fun hS => ?_)
      refine takeH 0 (some 34) (.bool false) rfl rfl (by kernel_rfl) (by kernel_rfl) (by kernel_rfl) (fun _ _ _ h => h) (by rfl) hS (fun w hSw => by obtain ⟨-, z0, z1, z2, z3, z4, z5, z6, z7, z8, z9, -⟩ := hSw.1; go_split_ands; go_simp <;> first | rfl | omega | (intro h; exfalso; omega)) ?_
      simp only [Act.put, List.setIfInBounds_toArray, List.set_cons_zero, List.set_cons_succ]
      refine takeH 1 (some 35) (.bool false) rfl rfl (by kernel_rfl) (by kernel_rfl) (by kernel_rfl) (fun _ _ _ h => h) (by rfl) hS (fun w hSw => by obtain ⟨-, z0, z1, z2, z3, z4, z5, z6, z7, z8, z9, -⟩ := hSw.1; go_split_ands; go_simp <;> first | rfl | omega | (intro h; exfalso; omega)) ?_
      simp only [Act.put, List.setIfInBounds_toArray, List.set_cons_zero, List.set_cons_succ]
      refine skipH 2 (some 36) rfl rfl (by kernel_rfl) (by kernel_rfl) (by kernel_rfl) (fun _ _ _ h => h) (by rfl) hS ?_
      simp only [Act.put, List.setIfInBounds_toArray, List.set_cons_zero, List.set_cons_succ]
      refine skipH 3 (some 37) rfl rfl (by kernel_rfl) (by kernel_rfl) (by kernel_rfl) (fun _ _ _ h => h) (by rfl) hS ?_
      simp only [Act.put, List.setIfInBounds_toArray, List.set_cons_zero, List.set_cons_succ]
      refine skipH 4 (some 38) rfl rfl (by kernel_rfl) (by kernel_rfl) (by kernel_rfl) (fun _ _ _ h => h) (by rfl) hS ?_
      simp only [Act.put, List.setIfInBounds_toArray, List.set_cons_zero, List.set_cons_succ]
      refine skipH 5 (some 39) rfl rfl (by kernel_rfl) (by kernel_rfl) (by kernel_rfl) (fun _ _ _ h => h) (by rfl) hS ?_
      simp only [Act.put, List.setIfInBounds_toArray, List.set_cons_zero, List.set_cons_succ]
      refine skipH 6 (some 40) rfl rfl (by kernel_rfl) (by kernel_rfl) (by kernel_rfl) (fun _ _ _ h => h) (by rfl) hS ?_
      simp only [Act.put, List.setIfInBounds_toArray, List.set_cons_zero, List.set_cons_succ]
      refine skipH 7 (some 41) rfl rfl (by kernel_rfl) (by kernel_rfl) (by kernel_rfl) (fun _ _ _ h => h) (by rfl) hS ?_
      simp only [Act.put, List.setIfInBounds_toArray, List.set_cons_zero, List.set_cons_succ]
      refine skipH 8 (some 42) rfl rfl (by kernel_rfl) (by kernel_rfl) (by kernel_rfl) (fun _ _ _ h => h) (by rfl) hS ?_
      simp only [Act.put, List.setIfInBounds_toArray, List.set_cons_zero, List.set_cons_succ]
      refine skipH 9 (some 43) rfl rfl (by kernel_rfl) (by kernel_rfl) (by kernel_rfl) (fun _ _ _ h => h) (by rfl) hS ?_
      simp only [Act.put, List.setIfInBounds_toArray, List.set_cons_zero, List.set_cons_succ]
      refine skipH 10 (some 44) rfl rfl (by kernel_rfl) (by kernel_rfl) (by kernel_rfl) (fun _ _ _ h => h) (by rfl) hS ?_
      simp only [Act.put, List.setIfInBounds_toArray, List.set_cons_zero, List.set_cons_succ]
      refine skipH 11 (some 45) rfl rfl (by kernel_rfl) (by kernel_rfl) (by kernel_rfl) (fun _ _ _ h => h) (by rfl) hS ?_
      simp only [Act.put, List.setIfInBounds_toArray, List.set_cons_zero, List.set_cons_succ]
      refine skipH 12 (some 46) rfl rfl (by kernel_rfl) (by kernel_rfl) (by kernel_rfl) (fun _ _ _ h => h) (by rfl) hS ?_
      simp only [Act.put, List.setIfInBounds_toArray, List.set_cons_zero, List.set_cons_succ]
      refine skipH 13 (some 47) rfl rfl (by kernel_rfl) (by kernel_rfl) (by kernel_rfl) (fun _ _ _ h => h) (by rfl) hS ?_
      simp only [Act.put, List.setIfInBounds_toArray, List.set_cons_zero, List.set_cons_succ]
      refine skipH 14 (some 48) rfl rfl (by kernel_rfl) (by kernel_rfl) (by kernel_rfl) (fun _ _ _ h => h) (by rfl) hS ?_
      simp only [Act.put, List.setIfInBounds_toArray, List.set_cons_zero, List.set_cons_succ]
      refine skipH 15 (some 49) rfl rfl (by kernel_rfl) (by kernel_rfl) (by kernel_rfl) (fun _ _ _ h => h) (by rfl) hS ?_
      simp only [Act.put, List.setIfInBounds_toArray, List.set_cons_zero, List.set_cons_succ]
      refine skipH 16 (some 50) rfl rfl (by kernel_rfl) (by kernel_rfl) (by kernel_rfl) (fun _ _ _ h => h) (by rfl) hS ?_
      simp only [Act.put, List.setIfInBounds_toArray, List.set_cons_zero, List.set_cons_succ]
      refine skipH 17 (some 51) rfl rfl (by kernel_rfl) (by kernel_rfl) (by kernel_rfl) (fun _ _ _ h => h) (by rfl) hS ?_
      simp only [Act.put, List.setIfInBounds_toArray, List.set_cons_zero, List.set_cons_succ]
      refine takeH 18 (some 52) (.bool false) rfl rfl (by kernel_rfl) (by kernel_rfl) (by kernel_rfl) (fun _ _ _ h => h) (by rfl) hS (fun w hSw => by obtain ⟨-, z0, z1, z2, z3, z4, z5, z6, z7, z8, z9, -⟩ := hSw.1; go_split_ands; go_simp <;> first | rfl | omega | (intro h; exfalso; omega)) ?_
      simp only [Act.put, List.setIfInBounds_toArray, List.set_cons_zero, List.set_cons_succ]
      refine takeH 19 (some 4) (.bool false) rfl rfl (by kernel_rfl) (by kernel_rfl) (by kernel_rfl) (fun _ _ _ h => h) (by rfl) hS (fun w hSw => by obtain ⟨-, z0, z1, z2, z3, z4, z5, z6, z7, z8, z9, -⟩ := hSw.1; go_split_ands; go_simp <;> first | rfl | omega | (intro h; exfalso; omega)) ?_
      simp only [Act.put, List.setIfInBounds_toArray, List.set_cons_zero, List.set_cons_succ]
      refine wpAnyH_done (by kernel_rfl) ?_ _
      go_wp2
      go_ret
      refine ⟨?_, hS.1.bel⟩
      have hne : ¬ lastW F T G (P f) (P t) n = U e := by rw [hY]; omega
      simp [hne]
    · obtain ⟨b3, o3, rfl, _⟩ := hr1.rows.arcs j hj
      have l7 : (0 : Int) ≤ (j : Int) := by omega
      have l8 : (j : Int) < (n : Int) := by omega
      refine wp_region_held_drew (S := fun w' => G8 w w' p (some ⟨b3, o3, none⟩) n cap (some ⟨b1, o1, none⟩) k pcap eo m ecap (some ⟨b2, o2, none⟩) ucap vo vcap ma me e true ∧ GOn w' (some ⟨b3, o3, none⟩) n F T G (some ⟨b1, o1, none⟩) k P eo m L H (some ⟨b2, o2, none⟩) U vo V ma me) (by kernel_rfl) ⟨(B1.next (below_drewN (Below.refl _ _) _)).next (Below.refl _ _).drew, (hr1.next (below_drewN (Below.refl _ _) _)).next (Below.refl _ _).drew⟩ (fun hS => ?_)
      refine takeH 0 (some 34) (.bool true) rfl rfl (by kernel_rfl) (by kernel_rfl) (by kernel_rfl) (fun _ _ _ h => h) (by rfl) hS (fun w hSw => by obtain ⟨-, z0, z1, z2, z3, z4, z5, z6, z7, z8, z9, -⟩ := hSw.1; obtain ⟨bx, ox, ex, _, _, z10⟩ := hSw.2.rows.arcs j hj; cases ex; obtain ⟨bx, ox, ex, z11⟩ := hSw.2.rows.up e he; cases ex; go_split_ands; go_simp <;> first | rfl | omega | (intro h; exfalso; omega)) ?_
      simp only [Act.put, List.setIfInBounds_toArray, List.set_cons_zero, List.set_cons_succ]
      refine takeH 1 (some 35) (.bool true) rfl rfl (by kernel_rfl) (by kernel_rfl) (by kernel_rfl) (fun _ _ _ h => h) (by rfl) hS (fun w hSw => by obtain ⟨-, z0, z1, z2, z3, z4, z5, z6, z7, z8, z9, -⟩ := hSw.1; obtain ⟨bx, ox, ex, _, _, z10⟩ := hSw.2.rows.arcs j hj; cases ex; obtain ⟨bx, ox, ex, z11⟩ := hSw.2.rows.up e he; cases ex; go_split_ands; go_simp <;> first | rfl | omega | (intro h; exfalso; omega)) ?_
      simp only [Act.put, List.setIfInBounds_toArray, List.set_cons_zero, List.set_cons_succ]
      refine takeH 2 (some 36) (.pointer (some ⟨w.heap.size, 0, none⟩)) rfl rfl (by kernel_rfl) (by kernel_rfl) (by kernel_rfl) (fun _ _ _ h => h) (by rfl) hS (fun w hSw => by obtain ⟨-, z0, z1, z2, z3, z4, z5, z6, z7, z8, z9, -⟩ := hSw.1; obtain ⟨bx, ox, ex, _, _, z10⟩ := hSw.2.rows.arcs j hj; cases ex; obtain ⟨bx, ox, ex, z11⟩ := hSw.2.rows.up e he; cases ex; go_split_ands; go_simp <;> first | rfl | omega | (intro h; exfalso; omega)) ?_
      simp only [Act.put, List.setIfInBounds_toArray, List.set_cons_zero, List.set_cons_succ]
      refine takeH 3 (some 37) (.pointer (some ⟨w.heap.size, 1, none⟩)) rfl rfl (by kernel_rfl) (by kernel_rfl) (by kernel_rfl) (fun _ _ _ h => h) (by rfl) hS (fun w hSw => by obtain ⟨-, z0, z1, z2, z3, z4, z5, z6, z7, z8, z9, -⟩ := hSw.1; obtain ⟨bx, ox, ex, _, _, z10⟩ := hSw.2.rows.arcs j hj; cases ex; obtain ⟨bx, ox, ex, z11⟩ := hSw.2.rows.up e he; cases ex; go_split_ands; go_simp <;> first | rfl | omega | (intro h; exfalso; omega)) ?_
      simp only [Act.put, List.setIfInBounds_toArray, List.set_cons_zero, List.set_cons_succ]
      refine takeH 4 (some 38) (.slice (some ⟨b3, o3, none⟩) n cap) rfl rfl (by kernel_rfl) (by kernel_rfl) (by kernel_rfl) (fun _ _ _ h => h) (by rfl) hS (fun w hSw => by obtain ⟨-, z0, z1, z2, z3, z4, z5, z6, z7, z8, z9, -⟩ := hSw.1; obtain ⟨bx, ox, ex, _, _, z10⟩ := hSw.2.rows.arcs j hj; cases ex; obtain ⟨bx, ox, ex, z11⟩ := hSw.2.rows.up e he; cases ex; go_split_ands; go_simp <;> first | rfl | omega | (intro h; exfalso; omega)) ?_
      simp only [Act.put, List.setIfInBounds_toArray, List.set_cons_zero, List.set_cons_succ]
      refine takeH 5 (some 39) (.int .i64 (j : Int)) rfl rfl (by kernel_rfl) (by kernel_rfl) (by kernel_rfl) (fun _ _ _ h => h) (by rfl) hS (fun w hSw => by obtain ⟨-, z0, z1, z2, z3, z4, z5, z6, z7, z8, z9, -⟩ := hSw.1; obtain ⟨bx, ox, ex, _, _, z10⟩ := hSw.2.rows.arcs j hj; cases ex; obtain ⟨bx, ox, ex, z11⟩ := hSw.2.rows.up e he; cases ex; go_split_ands; go_simp <;> first | rfl | omega | (intro h; exfalso; omega)) ?_
      simp only [Act.put, List.setIfInBounds_toArray, List.set_cons_zero, List.set_cons_succ]
      refine takeH 6 (some 40) (.pointer (some ⟨b3, o3 + j * 3, none⟩)) rfl rfl (by kernel_rfl) (by kernel_rfl) (by kernel_rfl) (fun _ _ _ h => h) (by rfl) hS (fun w hSw => by obtain ⟨-, z0, z1, z2, z3, z4, z5, z6, z7, z8, z9, -⟩ := hSw.1; obtain ⟨bx, ox, ex, _, _, z10⟩ := hSw.2.rows.arcs j hj; cases ex; obtain ⟨bx, ox, ex, z11⟩ := hSw.2.rows.up e he; cases ex; go_split_ands; go_simp <;> first | rfl | omega | (intro h; exfalso; omega)) ?_
      simp only [Act.put, List.setIfInBounds_toArray, List.set_cons_zero, List.set_cons_succ]
      refine takeH 7 (some 41) (.pointer (some ⟨b3, o3 + j * 3 + 2, none⟩)) rfl rfl (by kernel_rfl) (by kernel_rfl) (by kernel_rfl) (fun _ _ _ h => h) (by rfl) hS (fun w hSw => by obtain ⟨-, z0, z1, z2, z3, z4, z5, z6, z7, z8, z9, -⟩ := hSw.1; obtain ⟨bx, ox, ex, _, _, z10⟩ := hSw.2.rows.arcs j hj; cases ex; obtain ⟨bx, ox, ex, z11⟩ := hSw.2.rows.up e he; cases ex; go_split_ands; go_simp <;> first | rfl | omega | (intro h; exfalso; omega)) ?_
      simp only [Act.put, List.setIfInBounds_toArray, List.set_cons_zero, List.set_cons_succ]
      refine takeH 8 (some 42) (.int .i64 (G j)) rfl rfl (by kernel_rfl) (by kernel_rfl) (by kernel_rfl) (fun _ _ _ h => h) (by rfl) hS (fun w hSw => by obtain ⟨-, z0, z1, z2, z3, z4, z5, z6, z7, z8, z9, -⟩ := hSw.1; obtain ⟨bx, ox, ex, _, _, z10⟩ := hSw.2.rows.arcs j hj; cases ex; obtain ⟨bx, ox, ex, z11⟩ := hSw.2.rows.up e he; cases ex; go_split_ands; go_simp <;> first | rfl | omega | (intro h; exfalso; omega)) ?_
      simp only [Act.put, List.setIfInBounds_toArray, List.set_cons_zero, List.set_cons_succ]
      refine takeH 9 (some 43) (.agg #[.int .i64 p, .slice (some ⟨b3, o3, none⟩) n cap, .slice (some ⟨b1, o1, none⟩) k pcap, .slice eo m ecap, .slice (some ⟨b2, o2, none⟩) m ucap, .slice vo m vcap, .map (some ma), .map (some me)]) rfl rfl (by kernel_rfl) (by kernel_rfl) (by kernel_rfl) (fun _ _ _ h => h) (by rfl) hS (fun w hSw => by obtain ⟨-, z0, z1, z2, z3, z4, z5, z6, z7, z8, z9, -⟩ := hSw.1; obtain ⟨bx, ox, ex, _, _, z10⟩ := hSw.2.rows.arcs j hj; cases ex; obtain ⟨bx, ox, ex, z11⟩ := hSw.2.rows.up e he; cases ex; go_split_ands; go_simp <;> first | rfl | omega | (intro h; exfalso; omega)) ?_
      simp only [Act.put, List.setIfInBounds_toArray, List.set_cons_zero, List.set_cons_succ]
      refine takeH 10 (some 44) (.pointer (some ⟨w.heap.size + 1, 1, none⟩)) rfl rfl (by kernel_rfl) (by kernel_rfl) (by kernel_rfl) (fun _ _ _ h => h) (by rfl) hS (fun w hSw => by obtain ⟨-, z0, z1, z2, z3, z4, z5, z6, z7, z8, z9, -⟩ := hSw.1; obtain ⟨bx, ox, ex, _, _, z10⟩ := hSw.2.rows.arcs j hj; cases ex; obtain ⟨bx, ox, ex, z11⟩ := hSw.2.rows.up e he; cases ex; go_split_ands; go_simp <;> first | rfl | omega | (intro h; exfalso; omega)) ?_
      simp only [Act.put, List.setIfInBounds_toArray, List.set_cons_zero, List.set_cons_succ]
      refine takeH 11 (some 45) (.bool true) rfl rfl (by kernel_rfl) (by kernel_rfl) (by kernel_rfl) (fun _ _ _ h => h) (by rfl) hS (fun w hSw => by obtain ⟨-, z0, z1, z2, z3, z4, z5, z6, z7, z8, z9, -⟩ := hSw.1; obtain ⟨bx, ox, ex, _, _, z10⟩ := hSw.2.rows.arcs j hj; cases ex; obtain ⟨bx, ox, ex, z11⟩ := hSw.2.rows.up e he; cases ex; go_split_ands; go_simp <;> first | rfl | omega | (intro h; exfalso; omega)) ?_
      simp only [Act.put, List.setIfInBounds_toArray, List.set_cons_zero, List.set_cons_succ]
      refine takeH 13 (some 47) (.pointer (some ⟨w.heap.size + 1, 0, none⟩)) rfl rfl (by kernel_rfl) (by kernel_rfl) (by kernel_rfl) (fun _ _ _ h => h) (by rfl) hS (fun w hSw => by obtain ⟨-, z0, z1, z2, z3, z4, z5, z6, z7, z8, z9, -⟩ := hSw.1; obtain ⟨bx, ox, ex, _, _, z10⟩ := hSw.2.rows.arcs j hj; cases ex; obtain ⟨bx, ox, ex, z11⟩ := hSw.2.rows.up e he; cases ex; go_split_ands; go_simp <;> first | rfl | omega | (intro h; exfalso; omega)) ?_
      simp only [Act.put, List.setIfInBounds_toArray, List.set_cons_zero, List.set_cons_succ]
      refine takeH 14 (some 48) (.int .i64 (e : Int)) rfl rfl (by kernel_rfl) (by kernel_rfl) (by kernel_rfl) (fun _ _ _ h => h) (by rfl) hS (fun w hSw => by obtain ⟨-, z0, z1, z2, z3, z4, z5, z6, z7, z8, z9, -⟩ := hSw.1; obtain ⟨bx, ox, ex, _, _, z10⟩ := hSw.2.rows.arcs j hj; cases ex; obtain ⟨bx, ox, ex, z11⟩ := hSw.2.rows.up e he; cases ex; go_split_ands; go_simp <;> first | rfl | omega | (intro h; exfalso; omega)) ?_
      simp only [Act.put, List.setIfInBounds_toArray, List.set_cons_zero, List.set_cons_succ]
      refine step1H 12 _ rfl (by kernel_rfl) (by rfl) ?_
      go_simp
      refine (weights_any _ _ _ _ _ _ _ _ _ _ _ _ _ _ _ _ true _).mono ?_
      simp only [if_true, if_false, Bool.false_eq_true]
      rintro x y1 ⟨rfl, hy1⟩
      have hS1 : (fun w' => G8 w w' p (some ⟨b3, o3, none⟩) n cap (some ⟨b1, o1, none⟩) k pcap eo m ecap (some ⟨b2, o2, none⟩) ucap vo vcap ma me e true ∧ GOn w' (some ⟨b3, o3, none⟩) n F T G (some ⟨b1, o1, none⟩) k P eo m L H (some ⟨b2, o2, none⟩) U vo V ma me) y1 := ⟨hS.1.next hy1, hS.2.next hy1⟩
      refine ⟨hS1, ?_⟩
      refine takeH 15 (some 49) (.pointer (some ⟨b2, o2 + e, none⟩)) rfl rfl (by kernel_rfl) (by kernel_rfl) (by kernel_rfl) (fun _ _ _ h => h) (by rfl) hS1 (fun w hSw => by obtain ⟨-, z0, z1, z2, z3, z4, z5, z6, z7, z8, z9, -⟩ := hSw.1; obtain ⟨bx, ox, ex, _, _, z10⟩ := hSw.2.rows.arcs j hj; cases ex; obtain ⟨bx, ox, ex, z11⟩ := hSw.2.rows.up e he; cases ex; go_split_ands; go_simp <;> first | rfl | omega | (intro h; exfalso; omega)) ?_
      simp only [Act.put, List.setIfInBounds_toArray, List.set_cons_zero, List.set_cons_succ]
      refine takeH 16 (some 50) (.int .i64 (U e)) rfl rfl (by kernel_rfl) (by kernel_rfl) (by kernel_rfl) (fun _ _ _ h => h) (by rfl) hS1 (fun w hSw => by obtain ⟨-, z0, z1, z2, z3, z4, z5, z6, z7, z8, z9, -⟩ := hSw.1; obtain ⟨bx, ox, ex, _, _, z10⟩ := hSw.2.rows.arcs j hj; cases ex; obtain ⟨bx, ox, ex, z11⟩ := hSw.2.rows.up e he; cases ex; go_split_ands; go_simp <;> first | rfl | omega | (intro h; exfalso; omega)) ?_
      simp only [Act.put, List.setIfInBounds_toArray, List.set_cons_zero, List.set_cons_succ]
      refine takeH 17 (some 51) (.bool (decide (G j = U e))) rfl rfl (by kernel_rfl) (by kernel_rfl) (by kernel_rfl) (fun _ _ _ h => h) (by rfl) hS1 (fun w hSw => by obtain ⟨-, z0, z1, z2, z3, z4, z5, z6, z7, z8, z9, -⟩ := hSw.1; obtain ⟨bx, ox, ex, _, _, z10⟩ := hSw.2.rows.arcs j hj; cases ex; obtain ⟨bx, ox, ex, z11⟩ := hSw.2.rows.up e he; cases ex; go_split_ands; go_simp <;> first | rfl | omega | (intro h; exfalso; omega)) ?_
      simp only [Act.put, List.setIfInBounds_toArray, List.set_cons_zero, List.set_cons_succ]
      refine takeH 18 (some 52) (.bool (decide (G j = U e))) rfl rfl (by kernel_rfl) (by kernel_rfl) (by kernel_rfl) (fun _ _ _ h => h) (by rfl) hS1 (fun w hSw => by obtain ⟨-, z0, z1, z2, z3, z4, z5, z6, z7, z8, z9, -⟩ := hSw.1; obtain ⟨bx, ox, ex, _, _, z10⟩ := hSw.2.rows.arcs j hj; cases ex; obtain ⟨bx, ox, ex, z11⟩ := hSw.2.rows.up e he; cases ex; go_split_ands; go_simp <;> first | rfl | omega | (intro h; exfalso; omega)) ?_
      simp only [Act.put, List.setIfInBounds_toArray, List.set_cons_zero, List.set_cons_succ]
      refine takeH 19 (some 4) (.bool (decide (G j = U e))) rfl rfl (by kernel_rfl) (by kernel_rfl) (by kernel_rfl) (fun _ _ _ h => h) (by rfl) hS1 (fun w hSw => by obtain ⟨-, z0, z1, z2, z3, z4, z5, z6, z7, z8, z9, -⟩ := hSw.1; obtain ⟨bx, ox, ex, _, _, z10⟩ := hSw.2.rows.arcs j hj; cases ex; obtain ⟨bx, ox, ex, z11⟩ := hSw.2.rows.up e he; cases ex; go_split_ands; go_simp <;> first | rfl | omega | (intro h; exfalso; omega)) ?_
      simp only [Act.put, List.setIfInBounds_toArray, List.set_cons_zero, List.set_cons_succ]
      refine wpAnyH_done (by kernel_rfl) ?_ _
      go_wp2
      go_ret
      refine ⟨?_, hS1.1.bel⟩
      simp [hY]

end Go.Proofs.YtokaechbmnbbiabGreat
