/-
  Helpers: ApJ, RwP, SvF.
-/
import Derived.Test.YthmpliljffmmcaaGreatDoorPack1
import Derived.Test.YthmpliljffmmcaaGreatDoorPack36
import Derived.Test.YthmpliljffmmcaaGreatDoorPack17
import Derived.Test.YthmpliljffmmcaaGreatDoorPack37
import Derived.Test.YthmpliljffmmcaaGreatDoorPack14
import Derived.Test.YthmpliljffmmcaaGreatDoorPack27
set_option linter.unusedVariables false
set_option linter.unusedSimpArgs false
namespace Go.Proofs.YthmpliljffmmcaaGreatDoor
section
open Go.RowKit Go.Maps Go.Deep Go.Joins
attribute [local go_sem ↓] Go.wp_at_zero Go.wp_at_succ
theorem pDone_at (v : Value) (w : World) : Sem.run Tryz.prog (method 308 81 v "loop.example/g00161/impl.done") w = .ok (129, v) w := by kernel_rfl
theorem pDone_enters (args : Array Value) (w : World) : Sem.run Tryz.prog (callFunc 129 args) w = .ok (.enter 129 args) w := by kernel_rfl
theorem pDone_nil (w : World) : Sem.run Tryz.prog (nilAhead 308 81 (.agg #[]) "loop.example/g00161/impl.done") w = .ok (some false) w := by kernel_rfl
theorem wDone_at (v : Value) (w : World) : Sem.run Tryz.prog (method 308 83 v "loop.example/g00161/impl.done") w = .ok (131, v) w := by kernel_rfl
theorem wDone_enters (args : Array Value) (w : World) : Sem.run Tryz.prog (callFunc 131 args) w = .ok (.enter 131 args) w := by kernel_rfl
theorem wDone_nil (v : Value) (w : World) : Sem.run Tryz.prog (nilAhead 308 83 (.agg #[v]) "loop.example/g00161/impl.done") w = .ok (some false) w := by kernel_rfl
theorem qDone_at (v : Value) (w : World) : Sem.run Tryz.prog (method 308 86 v "loop.example/g00161/impl.done") w = .ok (135, v) w := by kernel_rfl
theorem qDone_enters (args : Array Value) (w : World) : Sem.run Tryz.prog (callFunc 135 args) w = .ok (.enter 135 args) w := by kernel_rfl
theorem qDone_nil (v u : Value) (w : World) : Sem.run Tryz.prog (nilAhead 308 86 (.agg #[v, u]) "loop.example/g00161/impl.done") w = .ok (some false) w := by kernel_rfl
theorem bat_wf {A B C : Nat → Int} : ∀ {n : Nat}, batB A B C n = true → ∀ k, k < n → arcB (A k) (B k) (C k) 24 = true := fun {n} h k hk => by
  rcases Bool.eq_false_or_eq_true (arcB (A k) (B k) (C k) 24) with q | q
  · exact q
  · rw [batB_no hk q] at h; cases h
theorem cmd2_wf {x : Nat} {A B C : Nat → Int} {a b : Int} (h : cmdB 2 x A B C a b = true) : WfTo A B x := fun k hk => by
  have hb : batB A B C x = true := by
    simp [cmdB, batchB] at h
    exact h.1.2.2
  have := bat_wf hb k hk
  simp [arcB, inB] at this
  exact ⟨WalkArith.wf_i64 (by omega), WalkArith.wf_i64 (by omega)⟩
set_option maxRecDepth 100000 in
set_option maxHeartbeats 4000000 in
theorem implApply_bad (p : Int) (ao : Option Addr) (n cap : Nat) (F T G : Nat → Int) (po : Option Addr) (k pcap : Nat) (P : Nat → Int) (eo : Option Addr) (m ecap : Nat) (L H : Nat → Int) (V : Int) (so : Option Addr) (t scap : Nat) (S : Nat → ByteArray) (K a b : Int) (xo : Option Addr) (x xc : Nat) (A B C : Nat → Int) (hn : n ≤ 1048576) (hk : k ≤ 1048576) (hm : m ≤ 1048576) (ht : t ≤ 1048576) (hx : x ≤ 1048576) (w : World) (hr : Row w ao n F T G) (hp : IRow w po k P) (he : ERow w eo m L H) (hs : SRow w so t S) (hc : Row w xo x A B C) (hbad : ¬ (SOk p n F T G k P m L H V t ∧ cmdB K x A B C a b = true)) :
    Calls Tryz.prog 6 #[.agg #[.int .i64 p, .slice ao n cap, .slice po k pcap, .slice eo m ecap, .int .i64 V, .slice so t scap], .agg #[.int .i64 K, .slice xo x xc, .int .i64 a, .int .i64 b]] w fun e w' => e = .returned (.agg #[.int .i64 0, .slice none 0 0, .slice none 0 0, .slice none 0 0, .int .i64 0, .slice none 0 0]) ∧ Below w.heap.size w w' := by
  have hA : Below w.heap.size w (((w.alloc (.cells #[.int .i64 p, .slice ao n cap, .slice po k pcap, .slice eo m ecap, .int .i64 V, .slice so t scap] 33)).alloc (.cells #[.int .i64 K, .slice xo x xc, .int .i64 a, .int .i64 b] 35)).alloc (.cells #[.int .i64 0, .slice none 0 0, .slice none 0 0, .slice none 0 0, .int .i64 0, .slice none 0 0] 33)) := (((Below.refl _ _).alloc nl _).alloc (by simp) _).alloc (by simp; omega) _
  have vA := ((sv6_new w p (.slice ao n cap) (.slice po k pcap) (.slice eo m ecap) V (.slice so t scap) 33).alloc (.cells #[.int .i64 K, .slice xo x xc, .int .i64 a, .int .i64 b] 35)).alloc (.cells #[.int .i64 0, .slice none 0 0, .slice none 0 0, .slice none 0 0, .int .i64 0, .slice none 0 0] 33)
  have vR := sv6_new ((w.alloc (.cells #[.int .i64 p, .slice ao n cap, .slice po k pcap, .slice eo m ecap, .int .i64 V, .slice so t scap] 33)).alloc (.cells #[.int .i64 K, .slice xo x xc, .int .i64 a, .int .i64 b] 35)) 0 (.slice none 0 0) (.slice none 0 0) (.slice none 0 0) 0 (.slice none 0 0) 33
  simp only [World.size_alloc] at vR
  have hsz : (((w.alloc (.cells #[.int .i64 p, .slice ao n cap, .slice po k pcap, .slice eo m ecap, .int .i64 V, .slice so t scap] 33)).alloc (.cells #[.int .i64 K, .slice xo x xc, .int .i64 a, .int .i64 b] 35)).alloc (.cells #[.int .i64 0, .slice none 0 0, .slice none 0 0, .slice none 0 0, .int .i64 0, .slice none 0 0] 33)).heap.size = w.heap.size + 3 := by simp
  obtain ⟨dd, hdd⟩ : ∃ dd, deedV K xo x xc a b = dd := ⟨_, rfl⟩
  have hD := fun W h => deedOf_any K xo x xc A B C a b hx W h
  rw [hdd] at hD
  clear hdd
  by_cases hcm : cmdB K x A B C a b = true
  · rw [hcm] at hD
    have hnok : ¬ SOk p n F T G k P m L H V t := fun h => hbad ⟨h, hcm⟩
    go_enter Tryz.func6, Tryz.ntmps6
    go_wp2_with fail
    generalize (((w.alloc (.cells #[.int .i64 p, .slice ao n cap, .slice po k pcap, .slice eo m ecap, .int .i64 V, .slice so t scap] 33)).alloc (.cells #[.int .i64 K, .slice xo x xc, .int .i64 a, .int .i64 b] 35)).alloc (.cells #[.int .i64 0, .slice none 0 0, .slice none 0 0, .slice none 0 0, .int .i64 0, .slice none 0 0] 33)) = W at hA vA vR hsz ⊢
    refine (hD _ (hc.below hA nl)).mono ?_
    rintro e w1 ⟨rfl, hb1⟩
    have hs1 := hb1.size
    replace hA := below_next hA nl hb1
    replace vA := vA.next hb1
    replace vR := vR.next hb1
    clear hb1 hD
    obtain ⟨x0, x1, x2, x3, x4, x5⟩ := vA.c6
    simp [sv6] at x0 x1 x2 x3 x4 x5
    go_wp2_with fail
    refine (implServiceOk_any p ao n cap F T G po k pcap P eo m ecap L H V so t scap S hn hk hm ht w1 (hr.below hA nl) (hp.below hA nl) (he.below hA nl)).mono ?_
    rintro e w2 ⟨⟨bb, rfl, hbb⟩, hb2⟩
    obtain rfl : bb = false := by
      cases bb
      · rfl
      · exact absurd (hbb.1 rfl) hnok
    clear hbb x0 x1 x2 x3 x4 x5
    have hs2 := hb2.size
    replace hA := below_next hA nl hb2
    replace vR := vR.next hb2
    clear hb2 vA
    obtain ⟨r0, r1, r2, r3, r4, r5⟩ := vR.c6
    obtain ⟨z0, z1, z2, z3, z4, z5⟩ := vR.z6
    simp [sv6] at r0 r1 r2 r3 r4 r5
    go_wp2
    have u := ((((((vR.set 0 (.int .i64 0)).set 1 (.slice none 0 0)).set 2 (.slice none 0 0)).set 3 (.slice none 0 0)).set 4 (.int .i64 0)).set 5 (.slice none 0 0))
    obtain ⟨q0, q1, q2, q3, q4, q5⟩ := u.c6
    simp [sv6] at q0 q1 q2 q3 q4 q5
    have hBY : Below w.heap.size w ((((((w2.setCell ⟨w.heap.size + 1 + 1, 0, none⟩ (.int .i64 0)).setCell ⟨w.heap.size + 1 + 1, 1, none⟩ (.slice none 0 0)).setCell ⟨w.heap.size + 1 + 1, 2, none⟩ (.slice none 0 0)).setCell ⟨w.heap.size + 1 + 1, 3, none⟩ (.slice none 0 0)).setCell ⟨w.heap.size + 1 + 1, 4, none⟩ (.int .i64 0)).setCell ⟨w.heap.size + 1 + 1, 5, none⟩ (.slice none 0 0)) := ((((((hA.setCell (p := ⟨w.heap.size + 1 + 1, 0, none⟩) (by simp; omega) _).setCell (p := ⟨w.heap.size + 1 + 1, 1, none⟩) (by simp; omega) _).setCell (p := ⟨w.heap.size + 1 + 1, 2, none⟩) (by simp; omega) _).setCell (p := ⟨w.heap.size + 1 + 1, 3, none⟩) (by simp; omega) _).setCell (p := ⟨w.heap.size + 1 + 1, 4, none⟩) (by simp; omega) _).setCell (p := ⟨w.heap.size + 1 + 1, 5, none⟩) (by simp; omega) _)
    clear u vR hA r0 r1 r2 r3 r4 r5 z0 z1 z2 z3 z4 z5
    generalize ((((((w2.setCell ⟨w.heap.size + 1 + 1, 0, none⟩ (.int .i64 0)).setCell ⟨w.heap.size + 1 + 1, 1, none⟩ (.slice none 0 0)).setCell ⟨w.heap.size + 1 + 1, 2, none⟩ (.slice none 0 0)).setCell ⟨w.heap.size + 1 + 1, 3, none⟩ (.slice none 0 0)).setCell ⟨w.heap.size + 1 + 1, 4, none⟩ (.int .i64 0)).setCell ⟨w.heap.size + 1 + 1, 5, none⟩ (.slice none 0 0)) = WY at q0 q1 q2 q3 q4 q5 hBY ⊢
    exact bodyPost_ret (v := .agg #[.int .i64 0, .slice none 0 0, .slice none 0 0, .slice none 0 0, .int .i64 0, .slice none 0 0]) (by simp [results, Tryz.results6, go_sem, q0, q1, q2, q3, q4, q5]) rfl ⟨rfl, hBY⟩
  · have hcf : cmdB K x A B C a b = false := by simpa using hcm
    rw [hcf] at hD
    go_enter Tryz.func6, Tryz.ntmps6
    go_wp2_with fail
    generalize (((w.alloc (.cells #[.int .i64 p, .slice ao n cap, .slice po k pcap, .slice eo m ecap, .int .i64 V, .slice so t scap] 33)).alloc (.cells #[.int .i64 K, .slice xo x xc, .int .i64 a, .int .i64 b] 35)).alloc (.cells #[.int .i64 0, .slice none 0 0, .slice none 0 0, .slice none 0 0, .int .i64 0, .slice none 0 0] 33)) = W at hA vA vR hsz ⊢
    refine (hD _ (hc.below hA nl)).mono ?_
    rintro e w1 ⟨rfl, hb1⟩
    have hs1 := hb1.size
    replace hA := below_next hA nl hb1
    replace vR := vR.next hb1
    clear hb1 hD vA
    obtain ⟨r0, r1, r2, r3, r4, r5⟩ := vR.c6
    obtain ⟨z0, z1, z2, z3, z4, z5⟩ := vR.z6
    simp [sv6] at r0 r1 r2 r3 r4 r5
    go_wp2
    have u := ((((((vR.set 0 (.int .i64 0)).set 1 (.slice none 0 0)).set 2 (.slice none 0 0)).set 3 (.slice none 0 0)).set 4 (.int .i64 0)).set 5 (.slice none 0 0))
    obtain ⟨q0, q1, q2, q3, q4, q5⟩ := u.c6
    simp [sv6] at q0 q1 q2 q3 q4 q5
    have hBY : Below w.heap.size w ((((((w1.setCell ⟨w.heap.size + 1 + 1, 0, none⟩ (.int .i64 0)).setCell ⟨w.heap.size + 1 + 1, 1, none⟩ (.slice none 0 0)).setCell ⟨w.heap.size + 1 + 1, 2, none⟩ (.slice none 0 0)).setCell ⟨w.heap.size + 1 + 1, 3, none⟩ (.slice none 0 0)).setCell ⟨w.heap.size + 1 + 1, 4, none⟩ (.int .i64 0)).setCell ⟨w.heap.size + 1 + 1, 5, none⟩ (.slice none 0 0)) := ((((((hA.setCell (p := ⟨w.heap.size + 1 + 1, 0, none⟩) (by simp; omega) _).setCell (p := ⟨w.heap.size + 1 + 1, 1, none⟩) (by simp; omega) _).setCell (p := ⟨w.heap.size + 1 + 1, 2, none⟩) (by simp; omega) _).setCell (p := ⟨w.heap.size + 1 + 1, 3, none⟩) (by simp; omega) _).setCell (p := ⟨w.heap.size + 1 + 1, 4, none⟩) (by simp; omega) _).setCell (p := ⟨w.heap.size + 1 + 1, 5, none⟩) (by simp; omega) _)
    clear u vR hA r0 r1 r2 r3 r4 r5 z0 z1 z2 z3 z4 z5
    generalize ((((((w1.setCell ⟨w.heap.size + 1 + 1, 0, none⟩ (.int .i64 0)).setCell ⟨w.heap.size + 1 + 1, 1, none⟩ (.slice none 0 0)).setCell ⟨w.heap.size + 1 + 1, 2, none⟩ (.slice none 0 0)).setCell ⟨w.heap.size + 1 + 1, 3, none⟩ (.slice none 0 0)).setCell ⟨w.heap.size + 1 + 1, 4, none⟩ (.int .i64 0)).setCell ⟨w.heap.size + 1 + 1, 5, none⟩ (.slice none 0 0)) = WY at q0 q1 q2 q3 q4 q5 hBY ⊢
    exact bodyPost_ret (v := .agg #[.int .i64 0, .slice none 0 0, .slice none 0 0, .slice none 0 0, .int .i64 0, .slice none 0 0]) (by simp [results, Tryz.results6, go_sem, q0, q1, q2, q3, q4, q5]) rfl ⟨rfl, hBY⟩
theorem implApply_any (p : Int) (ao : Option Addr) (n cap : Nat) (F T G : Nat → Int) (po : Option Addr) (k pcap : Nat) (P : Nat → Int) (eo : Option Addr) (m ecap : Nat) (L H : Nat → Int) (V : Int) (so : Option Addr) (t scap : Nat) (S : Nat → ByteArray) (K a b : Int) (xo : Option Addr) (x xc : Nat) (A B C : Nat → Int) (hn : n ≤ 1048576) (hk : k ≤ 1048576) (hm : m ≤ 1048576) (ht : t ≤ 1000000) (hx : x ≤ 1048576) (w : World) (hTab : Tab w) (hr : Row w ao n F T G) (hp : IRow w po k P) (he : ERow w eo m L H) (hs : SRow w so t S) (hc : Row w xo x A B C) :
    Calls Tryz.prog 6 #[.agg #[.int .i64 p, .slice ao n cap, .slice po k pcap, .slice eo m ecap, .int .i64 V, .slice so t scap], .agg #[.int .i64 K, .slice xo x xc, .int .i64 a, .int .i64 b]] w fun e w' => SvOut w w' e F T P L H (apR p n F T G k P m L H V t S K x A B C a b) := by
  by_cases hgood : SOk p n F T G k P m L H V t ∧ cmdB K x A B C a b = true
  rotate_left
  · rw [apR_no (fun h => hgood h.1)]
    refine (implApply_bad p ao n cap F T G po k pcap P eo m ecap L H V so t scap S K a b xo x xc A B C hn hk hm (by omega) hx w hr hp he hs hc hgood).mono ?_
    rintro e w' ⟨rfl, hb⟩
    exact svOut_zero hb
  obtain ⟨hok, hcm⟩ := hgood
  have hrm := room_of hok.2
  have fin : ∀ (r : SvR), apD p n F T G k P m L H V t S K x A B C a b = r → (roomB r.V r.t = false → Calls Tryz.prog 6 #[.agg #[.int .i64 p, .slice ao n cap, .slice po k pcap, .slice eo m ecap, .int .i64 V, .slice so t scap], .agg #[.int .i64 K, .slice xo x xc, .int .i64 a, .int .i64 b]] w fun e w' => e = .returned (.agg #[.int .i64 0, .slice none 0 0, .slice none 0 0, .slice none 0 0, .int .i64 0, .slice none 0 0]) ∧ Below w.heap.size w w') →
      (roomB r.V r.t = true → Calls Tryz.prog 6 #[.agg #[.int .i64 p, .slice ao n cap, .slice po k pcap, .slice eo m ecap, .int .i64 V, .slice so t scap], .agg #[.int .i64 K, .slice xo x xc, .int .i64 a, .int .i64 b]] w fun e w' => ∃ ao' cap' poN pcN eoN ecN so' sc', e = .returned (.agg #[.int .i64 r.p, .slice ao' r.n cap', .slice poN r.k pcN, .slice eoN r.m ecN, .int .i64 r.V, .slice so' r.t sc']) ∧ TRow w' 67 ao' (r.n * 3) (fun j => Value.int .i64 (ar F T r.G j)) ∧ TRow w' 2 poN (r.k * 1) (fun j => Value.int .i64 (P j)) ∧ TRowC w' 94 eoN (r.m * 2) (fun j => Value.int .i64 (er L H j)) r.m ecN ∧ GOwn w' w.heap.size 9 1 so' r.t sc' (fun j => Value.string (r.S j)) ∧ Below w.heap.size w w') →
      Calls Tryz.prog 6 #[.agg #[.int .i64 p, .slice ao n cap, .slice po k pcap, .slice eo m ecap, .int .i64 V, .slice so t scap], .agg #[.int .i64 K, .slice xo x xc, .int .i64 a, .int .i64 b]] w fun e w' => SvOut w w' e F T P L H (apR p n F T G k P m L H V t S K x A B C a b) := fun r hr1 h0 h1 => by
    rcases Bool.eq_false_or_eq_true (roomB r.V r.t) with hb | hb
    · rw [apR_yes hok hcm (by rw [hr1]; exact hb), hr1]
      refine (h1 hb).mono ?_
      rintro e w' ⟨ao', cap', poN, pcN, eoN, ecN, so', sc', rfl, q1, q2, q3, q4, q5⟩
      exact ⟨ao', cap', poN, pcN, eoN, ecN, so', sc', rfl, trow_arcs q1, GRow.i q2.row, GRow.e q3.row, GRow.s q4.row, q5⟩
    · rw [apR_no (fun h => by rw [hr1, hb] at h; cases h.2)]
      refine (h0 hb).mono ?_
      rintro e w' ⟨rfl, hb9⟩
      exact svOut_zero hb9
  rcases cmd_kind hcm with hK | hK | hK
  · subst hK
    refine fin ⟨p, n, G, k, m, V, t, S⟩ (by simp [apD]) ?_ ?_
    · intro hroom
      exact apply_no p ao n cap F T G po k pcap P eo m ecap L H V so t scap S 1 a b xo x xc 81 (.agg #[]) 129 G (V) (t) (S) hn hk hm (by omega) (by omega) w hr hp he hs hok
        (fun W hW => by
          have := deedOf_any 1 xo x xc A B C a b hx W (hc.below hW nl)
          rw [hcm] at this
          exact this)
        (pDone_at _) pDone_enters pDone_nil
        (fun W aoN capN poN pcN eoN ecN soN scN hW hR => by
            refine (pDone_any p aoN n capN poN k pcN eoN m ecN V soN t scN W).mono ?_
            rintro e w' ⟨rfl, hb⟩
            exact ⟨aoN, capN, rfl, hR.next hb, hb⟩)
        (fun W ao' cap' poN pcN eoN ecN soN scN hW hR hI hE hO => by
            refine (answered_none p ao' n cap' poN k pcN eoN m ecN V soN t scN p ao n cap po k pcap eo m ecap V so t scap W).mono ?_
            rintro e w' ⟨rfl, hb⟩
            exact ⟨soN, scN, rfl, hO.next hb, below_grown hb⟩) hroom
    · intro hroom
      exact apply_yes p ao n cap F T G po k pcap P eo m ecap L H V so t scap S 1 a b xo x xc 81 (.agg #[]) 129 G (V) (t) (S) hn hk hm (by omega) (by omega) w hr hp he hs hok
        (fun W hW => by
          have := deedOf_any 1 xo x xc A B C a b hx W (hc.below hW nl)
          rw [hcm] at this
          exact this)
        (pDone_at _) pDone_enters pDone_nil
        (fun W aoN capN poN pcN eoN ecN soN scN hW hR => by
            refine (pDone_any p aoN n capN poN k pcN eoN m ecN V soN t scN W).mono ?_
            rintro e w' ⟨rfl, hb⟩
            exact ⟨aoN, capN, rfl, hR.next hb, hb⟩)
        (fun W ao' cap' poN pcN eoN ecN soN scN hW hR hI hE hO => by
            refine (answered_none p ao' n cap' poN k pcN eoN m ecN V soN t scN p ao n cap po k pcap eo m ecap V so t scap W).mono ?_
            rintro e w' ⟨rfl, hb⟩
            exact ⟨soN, scN, rfl, hO.next hb, below_grown hb⟩) hroom
  · subst hK
    cases hres : resOf p n F T G x A B C with
    | some H' =>
    refine fin ⟨p, n, H', k, m, V + 1, t + 1, putS S t (okTx (V + 1))⟩ (by simp [apD, hres]) ?_ ?_
    · intro hroom
      exact apply_no p ao n cap F T G po k pcap P eo m ecap L H V so t scap S 2 a b xo x xc 83 (.agg #[.slice xo x xc]) 131 H' (V + 1) (t + 1) (putS S t (okTx (V + 1))) hn hk hm (by omega) (by omega) w hr hp he hs hok
        (fun W hW => by
          have := deedOf_any 2 xo x xc A B C a b hx W (hc.below hW nl)
          rw [hcm] at this
          exact this)
        (wDone_at _) wDone_enters (wDone_nil _)
        (fun W aoN capN poN pcN eoN ecN soN scN hW hR => wDone_yes xo x xc A B C p aoN n capN F T G poN k pcN eoN m ecN V soN t scN H' hn hx ⟨hrm.1, hrm.2.1⟩ (cmd2_wf hcm) W (trow_arcs hR) (hc.below hW nl) hres)
        (fun W ao' cap' poN pcN eoN ecN soN scN hW hR hI hE hO => by
            refine (answered_w (.agg #[.slice xo x xc]) p ao' n cap' poN k pcN eoN m ecN (V + 1) soN t scN p ao n cap po k pcap eo m ecap V so t scap S ⟨(okTx (V + 1)).toArray⟩ w.heap.size (by omega) W hW.size hO (fun W2 hW2 => wAns_ok xo x xc p ao' n cap' poN k pcN eoN m ecN (V + 1) soN t scN p ao n cap po k pcap eo m ecap V so t scap (by omega) (by omega) (by omega) W2 ((hTab.below hW nl).below hW2 nl))).mono ?_
            rintro e w' ⟨so', sc', rfl, hg1, _, hg2⟩
            exact ⟨so', sc', rfl, hg1, hg2⟩) hroom
    · intro hroom
      exact apply_yes p ao n cap F T G po k pcap P eo m ecap L H V so t scap S 2 a b xo x xc 83 (.agg #[.slice xo x xc]) 131 H' (V + 1) (t + 1) (putS S t (okTx (V + 1))) hn hk hm (by omega) (by omega) w hr hp he hs hok
        (fun W hW => by
          have := deedOf_any 2 xo x xc A B C a b hx W (hc.below hW nl)
          rw [hcm] at this
          exact this)
        (wDone_at _) wDone_enters (wDone_nil _)
        (fun W aoN capN poN pcN eoN ecN soN scN hW hR => wDone_yes xo x xc A B C p aoN n capN F T G poN k pcN eoN m ecN V soN t scN H' hn hx ⟨hrm.1, hrm.2.1⟩ (cmd2_wf hcm) W (trow_arcs hR) (hc.below hW nl) hres)
        (fun W ao' cap' poN pcN eoN ecN soN scN hW hR hI hE hO => by
            refine (answered_w (.agg #[.slice xo x xc]) p ao' n cap' poN k pcN eoN m ecN (V + 1) soN t scN p ao n cap po k pcap eo m ecap V so t scap S ⟨(okTx (V + 1)).toArray⟩ w.heap.size (by omega) W hW.size hO (fun W2 hW2 => wAns_ok xo x xc p ao' n cap' poN k pcN eoN m ecN (V + 1) soN t scN p ao n cap po k pcap eo m ecap V so t scap (by omega) (by omega) (by omega) W2 ((hTab.below hW nl).below hW2 nl))).mono ?_
            rintro e w' ⟨so', sc', rfl, hg1, _, hg2⟩
            exact ⟨so', sc', rfl, hg1, hg2⟩) hroom
    | none =>
    refine fin ⟨p, n, G, k, m, V, t + 1, putS S t [110, 111]⟩ (by simp [apD, hres]) ?_ ?_
    · intro hroom
      exact apply_no p ao n cap F T G po k pcap P eo m ecap L H V so t scap S 2 a b xo x xc 83 (.agg #[.slice xo x xc]) 131 G (V) (t + 1) (putS S t [110, 111]) hn hk hm (by omega) (by omega) w hr hp he hs hok
        (fun W hW => by
          have := deedOf_any 2 xo x xc A B C a b hx W (hc.below hW nl)
          rw [hcm] at this
          exact this)
        (wDone_at _) wDone_enters (wDone_nil _)
        (fun W aoN capN poN pcN eoN ecN soN scN hW hR => by
            refine (wDone_no xo x xc A B C p aoN n capN F T G poN k pcN eoN m ecN V soN t scN G hn hx ⟨hrm.1, hrm.2.1⟩ (cmd2_wf hcm) W (trow_arcs hR) (hc.below hW nl) hres).mono ?_
            rintro e w' ⟨rfl, hb⟩
            exact ⟨aoN, capN, rfl, hR.next hb, hb⟩)
        (fun W ao' cap' poN pcN eoN ecN soN scN hW hR hI hE hO => by
            refine (answered_w (.agg #[.slice xo x xc]) p ao' n cap' poN k pcN eoN m ecN (V) soN t scN p ao n cap po k pcap eo m ecap V so t scap S ⟨([110, 111]).toArray⟩ w.heap.size (by omega) W hW.size hO (fun W2 hW2 => wAns_no xo x xc p ao' n cap' poN k pcN eoN m ecN V soN t scN p ao n cap po k pcap eo m ecap V so t scap rfl W2)).mono ?_
            rintro e w' ⟨so', sc', rfl, hg1, _, hg2⟩
            exact ⟨so', sc', rfl, hg1, hg2⟩) hroom
    · intro hroom
      exact apply_yes p ao n cap F T G po k pcap P eo m ecap L H V so t scap S 2 a b xo x xc 83 (.agg #[.slice xo x xc]) 131 G (V) (t + 1) (putS S t [110, 111]) hn hk hm (by omega) (by omega) w hr hp he hs hok
        (fun W hW => by
          have := deedOf_any 2 xo x xc A B C a b hx W (hc.below hW nl)
          rw [hcm] at this
          exact this)
        (wDone_at _) wDone_enters (wDone_nil _)
        (fun W aoN capN poN pcN eoN ecN soN scN hW hR => by
            refine (wDone_no xo x xc A B C p aoN n capN F T G poN k pcN eoN m ecN V soN t scN G hn hx ⟨hrm.1, hrm.2.1⟩ (cmd2_wf hcm) W (trow_arcs hR) (hc.below hW nl) hres).mono ?_
            rintro e w' ⟨rfl, hb⟩
            exact ⟨aoN, capN, rfl, hR.next hb, hb⟩)
        (fun W ao' cap' poN pcN eoN ecN soN scN hW hR hI hE hO => by
            refine (answered_w (.agg #[.slice xo x xc]) p ao' n cap' poN k pcN eoN m ecN (V) soN t scN p ao n cap po k pcap eo m ecap V so t scap S ⟨([110, 111]).toArray⟩ w.heap.size (by omega) W hW.size hO (fun W2 hW2 => wAns_no xo x xc p ao' n cap' poN k pcN eoN m ecN V soN t scN p ao n cap po k pcap eo m ecap V so t scap rfl W2)).mono ?_
            rintro e w' ⟨so', sc', rfl, hg1, _, hg2⟩
            exact ⟨so', sc', rfl, hg1, hg2⟩) hroom
  · subst hK
    obtain ⟨⟨CU, CD⟩, hC⟩ : ∃ Z, cusT p n F T G P = Z := ⟨_, rfl⟩
    have hH := hok.1
    obtain ⟨el, eLH⟩ := hok_len hH
    obtain ⟨hdb, hdt⟩ := ask_same hH.1 hC a b
    have hN : lenM p n F T G k P m (Lf (lstF p n F T P)) (Hf (lstF p n F T P)) = (lstF p n F T P).length := by
      rw [el]
      refine lenM_yes ⟨hH.1, ?_, fun i hi => ⟨rfl, rfl⟩⟩
      have := hH.2.1
      rw [el] at this
      exact this
    generalize hdd : dst k P (lstF p n F T P).length (Lf (lstF p n F T P)) (Hf (lstF p n F T P)) (lstF p n F T P).length CU (lstF p n F T P).length CD a b = dd at hdb hdt
    refine fin ⟨p, n, G, k, m, V, t + 1, putS S t (askTx p n F T G V a b)⟩ (by simp [apD]) ?_ ?_
    · intro hroom
      exact apply_no p ao n cap F T G po k pcap P eo m ecap L H V so t scap S 3 a b xo x xc 86 (.agg #[.int .i64 a, .int .i64 b]) 135 G (V) (t + 1) (putS S t (askTx p n F T G V a b)) hn hk hm (by omega) (by omega) w hr hp he hs hok
        (fun W hW => by
          have := deedOf_any 3 xo x xc A B C a b hx W (hc.below hW nl)
          rw [hcm] at this
          exact this)
        (qDone_at _) qDone_enters (qDone_nil _ _)
        (fun W aoN capN poN pcN eoN ecN soN scN hW hR => by
            refine (qDone_any a b p aoN n capN poN k pcN eoN m ecN V soN t scN W).mono ?_
            rintro e w' ⟨rfl, hb⟩
            exact ⟨aoN, capN, rfl, hR.next hb, hb⟩)
        (fun W ao' cap' poN pcN eoN ecN soN scN hW hR hI hE hO => by
            refine (answered_q (.agg #[.int .i64 a, .int .i64 b]) p ao' n cap' poN k pcN eoN m ecN (V) soN t scN p ao n cap po k pcap eo m ecap V so t scap S ⟨(askTx p n F T G V a b).toArray⟩ w.heap.size (by omega) W hW.size hO (fun W2 hW2 => by
              have hE2 : ERow W2 eoN m (Lf (lstF p n F T P)) (Hf (lstF p n F T P)) := fun j hj => by
                have h0 := (GRow.e (hE.next hW2).row) j hj
                rw [(eLH j hj).1, (eLH j hj).2] at h0
                exact h0
              have h9 := qAns_any a b p ao' n cap' F T G poN k pcN P eoN m ecN (Lf (lstF p n F T P)) (Hf (lstF p n F T P)) V soN t scN p ao n cap po k pcap eo m ecap V so t scap (lstF p n F T P).length CU CD hn hk hm (by omega) hN hC dd (by rw [← hdd, ← el]) hdb.1 hdb.2 hrm.1 (by omega) W2 ((hTab.below hW nl).below hW2 nl) (trow_arcs (hR.next hW2)) (GRow.i (hI.next hW2).row) hE2
              rw [hdt] at h9
              exact h9)).mono ?_
            rintro e w' ⟨so', sc', rfl, hg1, _, hg2⟩
            exact ⟨so', sc', rfl, hg1, hg2⟩) hroom
    · intro hroom
      exact apply_yes p ao n cap F T G po k pcap P eo m ecap L H V so t scap S 3 a b xo x xc 86 (.agg #[.int .i64 a, .int .i64 b]) 135 G (V) (t + 1) (putS S t (askTx p n F T G V a b)) hn hk hm (by omega) (by omega) w hr hp he hs hok
        (fun W hW => by
          have := deedOf_any 3 xo x xc A B C a b hx W (hc.below hW nl)
          rw [hcm] at this
          exact this)
        (qDone_at _) qDone_enters (qDone_nil _ _)
        (fun W aoN capN poN pcN eoN ecN soN scN hW hR => by
            refine (qDone_any a b p aoN n capN poN k pcN eoN m ecN V soN t scN W).mono ?_
            rintro e w' ⟨rfl, hb⟩
            exact ⟨aoN, capN, rfl, hR.next hb, hb⟩)
        (fun W ao' cap' poN pcN eoN ecN soN scN hW hR hI hE hO => by
            refine (answered_q (.agg #[.int .i64 a, .int .i64 b]) p ao' n cap' poN k pcN eoN m ecN (V) soN t scN p ao n cap po k pcap eo m ecap V so t scap S ⟨(askTx p n F T G V a b).toArray⟩ w.heap.size (by omega) W hW.size hO (fun W2 hW2 => by
              have hE2 : ERow W2 eoN m (Lf (lstF p n F T P)) (Hf (lstF p n F T P)) := fun j hj => by
                have h0 := (GRow.e (hE.next hW2).row) j hj
                rw [(eLH j hj).1, (eLH j hj).2] at h0
                exact h0
              have h9 := qAns_any a b p ao' n cap' F T G poN k pcN P eoN m ecN (Lf (lstF p n F T P)) (Hf (lstF p n F T P)) V soN t scN p ao n cap po k pcap eo m ecap V so t scap (lstF p n F T P).length CU CD hn hk hm (by omega) hN hC dd (by rw [← hdd, ← el]) hdb.1 hdb.2 hrm.1 (by omega) W2 ((hTab.below hW nl).below hW2 nl) (trow_arcs (hR.next hW2)) (GRow.i (hI.next hW2).row) hE2
              rw [hdt] at h9
              exact h9)).mono ?_
            rintro e w' ⟨so', sc', rfl, hg1, _, hg2⟩
            exact ⟨so', sc', rfl, hg1, hg2⟩) hroom
end
section
theorem rw_in {F T G A B C : Nat → Int} {n : Nat} (hG : ∀ k, k < n → inB (G k) 1 1000000 = true) : ∀ s H, rw' F T G A B C n s = some H → ∀ k, k < n → inB (H k) 1 1000000 = true
  | 0, H, h, k, hk => by
    simp [rw'] at h
    rw [← h]; exact hG k hk
  | s + 1, H, h, k, hk => by
    unfold rw' at h
    cases h1 : rw' F T G A B C n s with
    | none => rw [h1] at h; cases h
    | some H0 =>
      rw [h1] at h
      simp only at h
      split at h
      · next hc =>
        simp only [Option.some.injEq] at h
        have h2 := rw_in hG s H0 h1 k hk
        simp only [Bool.and_eq_true] at hc
        rw [← h]
        unfold put
        split
        · exact hc.2
        · exact h2
      · cases h
theorem arcsB_w {p : Int} {F T G H : Nat → Int} : ∀ n, arcsB p F T G n = true → (∀ k, k < n → inB (H k) 1 1000000 = true) → arcsB p F T H n = true
  | 0, _, _ => rfl
  | n + 1, h, hw => by
    have h1 := arcsB_w (H := H) n (by simp [arcsB] at h; exact h.1) (fun k hk => hw k (by omega))
    have h2 := hw n (by omega)
    have h3 : arcB (F n) (T n) (G n) p = true ∧ (n == 0 || upB (F (n - 1)) (T (n - 1)) (F n) (T n)) = true := by
      simp only [arcsB, Bool.and_eq_true] at h
      exact h.2
    have h4 : arcB (F n) (T n) (H n) p = true := by
      have := h3.1
      simp [arcB, inB] at this h2 ⊢
      omega
    simp only [arcsB, Bool.and_eq_true]
    exact ⟨h1, h4, h3.2⟩
theorem graphB_w {p : Int} {n : Nat} {F T G H : Nat → Int} (h : graphB p n F T G = true) (hw : ∀ k, k < n → inB (H k) 1 1000000 = true) : graphB p n F T H = true := by
  simp only [graphB, Bool.and_eq_true] at h ⊢
  exact ⟨h.1, h.2.1, arcsB_w n h.2.2 hw⟩
theorem arcs_in {p : Int} {F T G : Nat → Int} {n : Nat} (h : arcsB p F T G n = true) : ∀ k, k < n → inB (G k) 1 1000000 = true := fun k hk => by
  have := (arcsB_each n h k hk).1
  simp [arcB, inB] at this ⊢
  omega
theorem res_ok {p : Int} {n : Nat} {F T G : Nat → Int} {s : Nat} {A B C H : Nat → Int} (h : resOf p n F T G s A B C = some H) : graphB p n F T H = true := by
  unfold resOf at h
  split at h
  · next hg => exact graphB_w hg (rw_in (arcs_in (graphB_arcs hg).2) s H h)
  · cases h
end
section
open Go.RowKit
theorem ord_x {p : Int} {n : Nat} {F T G H : Nat → Int} {k : Nat} {P : Nat → Int} (h : ordB p n F T G k P = true) (hg : graphB p n F T H = true) : ordB p n F T H k P = true := by
  simp only [ordB, Bool.and_eq_true] at h ⊢
  exact ⟨hg, h.2⟩
theorem sok_w {p : Int} {n : Nat} {F T G : Nat → Int} {k : Nat} {P : Nat → Int} {m : Nat} {L H : Nat → Int} {V : Int} {t : Nat} {V' : Int} {t' : Nat} {H' : Nat → Int} (h : SOk p n F T G k P m L H V t) (hg : graphB p n F T H' = true) (hr : roomB V' t' = true) : SOk p n F T H' k P m L H V' t' := by
  obtain ⟨⟨ho, hs⟩, _⟩ := h
  have ho' := ord_x ho hg
  refine ⟨⟨ho', ?_⟩, hr⟩
  have e : lenF p n F T H' k P = lenF p n F T G k P := by
    unfold lenF
    rw [if_pos ho, if_pos ho']
  rw [e]
  exact hs
theorem sok_g {p : Int} {n : Nat} {F T G : Nat → Int} {k : Nat} {P : Nat → Int} {m : Nat} {L H : Nat → Int} {V : Int} {t : Nat} (h : SOk p n F T G k P m L H V t) : graphB p n F T G = true := by
  have := h.1.1
  simp only [ordB, Bool.and_eq_true] at this
  exact this.1
theorem okTx_no (V : Int) : (⟨(okTx V).toArray⟩ : ByteArray) ≠ ⟨[110, 111].toArray⟩ := fun h => by
  have := congrArg (fun b : ByteArray => b.data.toList) h
  simp [okTx] at this
theorem apR_cases (p : Int) (n : Nat) (F T G : Nat → Int) (k : Nat) (P : Nat → Int) (m : Nat) (L H : Nat → Int) (V : Int) (t : Nat) (S : Nat → ByteArray) (K : Int) (x : Nat) (A B C : Nat → Int) (a b : Int) (r : SvR) (h : apR p n F T G k P m L H V t S K x A B C a b = r) :
    (r.p = 0 ∧ r.n = 0) ∨ (K = 1 ∧ r = ⟨p, n, G, k, m, V, t, S⟩) ∨ (K = 3 ∧ r.t = t + 1 ∧ r.p = p ∧ r.n = n ∧ r.G = G ∧ r.V = V) ∨
    (K = 2 ∧ r.t = t + 1 ∧ ((r.S t = ⟨[110, 111].toArray⟩ ∧ r.V = V) ∨ (r.S t ≠ ⟨[110, 111].toArray⟩ ∧ r.V ≠ V)) ∧ SOk r.p r.n F T r.G r.k P r.m L H r.V r.t) := by
  by_cases hc : (SOk p n F T G k P m L H V t ∧ cmdB K x A B C a b = true) ∧ roomB (apD p n F T G k P m L H V t S K x A B C a b).V (apD p n F T G k P m L H V t S K x A B C a b).t = true
  · rw [apR_yes hc.1.1 hc.1.2 hc.2] at h
    obtain ⟨⟨hS, hcm⟩, hr⟩ := hc
    refine .inr ?_
    rcases cmd_kind hcm with q | q | q
    · left
      refine ⟨q, ?_⟩
      rw [← h]
      unfold apD
      rw [if_neg (by omega), if_neg (by omega)]
    · right; right
      refine ⟨q, ?_⟩
      unfold apD at h hr
      rw [if_pos q] at h hr
      cases hres : resOf p n F T G x A B C with
      | none =>
        rw [hres] at h hr
        simp only at h hr
        subst h
        exact ⟨rfl, .inl ⟨by simp [putS], rfl⟩, sok_w hS (sok_g hS) hr⟩
      | some H' =>
        rw [hres] at h hr
        simp only at h hr
        subst h
        refine ⟨rfl, .inr ⟨?_, by simp; omega⟩, sok_w hS (res_ok hres) hr⟩
        simp only [putS, if_true]
        exact okTx_no _
    · right; left
      refine ⟨q, ?_⟩
      unfold apD at h
      rw [if_neg (by omega), if_pos q] at h
      subst h
      exact ⟨rfl, rfl, rfl, rfl, rfl⟩
  · rw [apR_no hc] at h
    subst h
    exact .inl ⟨rfl, rfl⟩
end
end Go.Proofs.YthmpliljffmmcaaGreatDoor
