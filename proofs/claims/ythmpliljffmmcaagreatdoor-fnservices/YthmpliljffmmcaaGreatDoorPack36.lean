/-
  Helpers: ApI, ClmP, ShA, ShB.
-/
import Derived.Test.YthmpliljffmmcaaGreatDoorPack1
import Derived.Test.YthmpliljffmmcaaGreatDoorPack34
import Derived.Test.YthmpliljffmmcaaGreatDoorPack35
import Derived.Test.YthmpliljffmmcaaGreatDoorPack14
import Derived.Test.YthmpliljffmmcaaGreatDoorPack11
import Derived.Test.YthmpliljffmmcaaGreatDoorPack13
import Derived.Test.YthmpliljffmmcaaGreatDoorPack25
import Derived.Test.YthmpliljffmmcaaGreatDoorPack12
import Derived.Test.YthmpliljffmmcaaGreatDoorPack19
import Derived.Test.YthmpliljffmmcaaGreatDoorPack20
set_option linter.unusedVariables false
set_option linter.unusedSimpArgs false
namespace Go.Proofs.YthmpliljffmmcaaGreatDoor
section
open Go.RowKit Go.Maps Go.Deep Go.Joins
attribute [local go_sem ↓] Go.wp_at_zero Go.wp_at_succ
def SvV (base : Nat) (p : Int) (n : Nat) (F T G : Nat → Int) (k : Nat) (P : Nat → Int) (m : Nat) (L H : Nat → Int) (V : Int) (t : Nat) (S : Nat → ByteArray) (v : Value) (w : World) : Prop :=
  ∃ ao cap po pc eo ec so sc, v = .agg #[.int .i64 p, .slice ao n cap, .slice po k pc, .slice eo m ec, .int .i64 V, .slice so t sc] ∧ TRow w 67 ao (n * 3) (fun j => Value.int .i64 (ar F T G j)) ∧ TRow w 2 po (k * 1) (fun j => Value.int .i64 (P j)) ∧ TRowC w 94 eo (m * 2) (fun j => Value.int .i64 (er L H j)) m ec ∧ GOwn w base 9 1 so t sc (fun j => Value.string (S j))
theorem SvV.rb {base : Nat} {p : Int} {n : Nat} {F T G : Nat → Int} {k : Nat} {P : Nat → Int} {m : Nat} {L H : Nat → Int} {V : Int} {t : Nat} {S : Nat → ByteArray} (v : Value) (w w' : World) (h : SvV base p n F T G k P m L H V t S v w) (hb : RB w w') : SvV base p n F T G k P m L H V t S v w' := by
  obtain ⟨ao, cap, po, pc, eo, ec, so, sc, e, q1, q2, q3, q4⟩ := h
  exact ⟨ao, cap, po, pc, eo, ec, so, sc, e, q1.next hb, q2.next hb, q3.next hb, q4.next hb⟩
def BXS (base : Nat) (v : Value) (w : World) : Prop := ∃ b, v = .pointer (some ⟨b, 0, none⟩) ∧ base ≤ b ∧ VHas w b 33 6 (sv6 0 (.slice none 0 0) (.slice none 0 0) (.slice none 0 0) 0 (.slice none 0 0))
theorem BXS.rb {base : Nat} (v : Value) (w w' : World) (h : BXS base v w) (hb : RB w w') : BXS base v w' := by
  obtain ⟨b, e, h1, h2⟩ := h
  exact ⟨b, e, h1, h2.next hb⟩
set_option maxRecDepth 100000 in
set_option maxHeartbeats 8000000 in
theorem apply_core (p : Int) (ao : Option Addr) (n cap : Nat) (F T G : Nat → Int) (po : Option Addr) (k pcap : Nat) (P : Nat → Int) (eo : Option Addr) (m ecap : Nat) (L H : Nat → Int) (V : Int) (so : Option Addr) (t scap : Nat) (S : Nat → ByteArray) (K a b : Int) (xo : Option Addr) (x xc : Nat) (D : TypeId) (dv : Value) (fd : Nat) (G' : Nat → Int) (V' : Int) (t' : Nat) (S' : Nat → ByteArray) (hn : n ≤ 1048576) (hk : k ≤ 1048576) (hm : m ≤ 1048576) (ht : t ≤ 1048576) (ht' : t' ≤ 1048576) (w : World) (hr : Row w ao n F T G) (hp : IRow w po k P) (he : ERow w eo m L H) (hs : SRow w so t S) (hok : SOk p n F T G k P m L H V t)
    (hDeed : ∀ W, Below w.heap.size w W → Calls Tryz.prog 22 #[.agg #[.int .i64 K, .slice xo x xc, .int .i64 a, .int .i64 b]] W fun e w' => e = .returned (.tuple #[.iface D dv, .bool true]) ∧ Below W.heap.size W w')
    (hat : ∀ w, Sem.run Tryz.prog (method 308 D dv "loop.example/g00161/impl.done") w = .ok (fd, dv) w) (hen : ∀ args w, Sem.run Tryz.prog (callFunc fd args) w = .ok (.enter fd args) w) (hnl : ∀ w, Sem.run Tryz.prog (nilAhead 308 D dv "loop.example/g00161/impl.done") w = .ok (some false) w)
    (HDn : ∀ W aoN capN poN pcN eoN ecN soN scN, Below w.heap.size w W → TRow W 67 aoN (n * 3) (fun j => Value.int .i64 (ar F T G j)) → Calls Tryz.prog fd #[dv, .agg #[.int .i64 p, .slice aoN n capN, .slice poN k pcN, .slice eoN m ecN, .int .i64 V, .slice soN t scN]] W fun e w' => ∃ ao' cap', e = .returned (.agg #[.int .i64 p, .slice ao' n cap', .slice poN k pcN, .slice eoN m ecN, .int .i64 V', .slice soN t scN]) ∧ TRow w' 67 ao' (n * 3) (fun j => Value.int .i64 (ar F T G' j)) ∧ Below W.heap.size W w')
    (HAn : ∀ W ao' cap' poN pcN eoN ecN soN scN, Below w.heap.size w W → TRow W 67 ao' (n * 3) (fun j => Value.int .i64 (ar F T G' j)) → TRow W 2 poN (k * 1) (fun j => Value.int .i64 (P j)) → TRowC W 94 eoN (m * 2) (fun j => Value.int .i64 (er L H j)) m ecN → GOwn W w.heap.size 9 1 soN t scN (fun j => Value.string (S j)) → Calls Tryz.prog 23 #[.iface D dv, .agg #[.int .i64 p, .slice ao n cap, .slice po k pcap, .slice eo m ecap, .int .i64 V, .slice so t scap], .agg #[.int .i64 p, .slice ao' n cap', .slice poN k pcN, .slice eoN m ecN, .int .i64 V', .slice soN t scN]] W fun e w' => ∃ so' sc', e = .returned (.agg #[.int .i64 p, .slice ao' n cap', .slice poN k pcN, .slice eoN m ecN, .int .i64 V', .slice so' t' sc']) ∧ GOwn w' w.heap.size 9 1 so' t' sc' (fun j => Value.string (S' j)) ∧ W.grownBy w' (Value.slice soN t scN).ownBlock) :
    Calls Tryz.prog 6 #[.agg #[.int .i64 p, .slice ao n cap, .slice po k pcap, .slice eo m ecap, .int .i64 V, .slice so t scap], .agg #[.int .i64 K, .slice xo x xc, .int .i64 a, .int .i64 b]] w fun e w' => (roomB V' t' = true → ∃ v, e = .returned v ∧ SvV w.heap.size p n F T G' k P m L H V' t' S' v w') ∧ (roomB V' t' = false → e = .returned (.agg #[.int .i64 0, .slice none 0 0, .slice none 0 0, .slice none 0 0, .int .i64 0, .slice none 0 0])) ∧ Below w.heap.size w w' := by
  have HOK : Hid (SOk p n F T G k P m L H V t) := hok
  clear hok
  have hA : Below w.heap.size w (((w.alloc (.cells #[.int .i64 p, .slice ao n cap, .slice po k pcap, .slice eo m ecap, .int .i64 V, .slice so t scap] 33)).alloc (.cells #[.int .i64 K, .slice xo x xc, .int .i64 a, .int .i64 b] 35)).alloc (.cells #[.int .i64 0, .slice none 0 0, .slice none 0 0, .slice none 0 0, .int .i64 0, .slice none 0 0] 33)) := (((Below.refl _ _).alloc nl _).alloc (by simp) _).alloc (by simp; omega) _
  have vA := ((sv6_new w p (.slice ao n cap) (.slice po k pcap) (.slice eo m ecap) V (.slice so t scap) 33).alloc (.cells #[.int .i64 K, .slice xo x xc, .int .i64 a, .int .i64 b] 35)).alloc (.cells #[.int .i64 0, .slice none 0 0, .slice none 0 0, .slice none 0 0, .int .i64 0, .slice none 0 0] 33)
  have vR := sv6_new ((w.alloc (.cells #[.int .i64 p, .slice ao n cap, .slice po k pcap, .slice eo m ecap, .int .i64 V, .slice so t scap] 33)).alloc (.cells #[.int .i64 K, .slice xo x xc, .int .i64 a, .int .i64 b] 35)) 0 (.slice none 0 0) (.slice none 0 0) (.slice none 0 0) 0 (.slice none 0 0) 33
  simp only [World.size_alloc] at vR
  have hB : SvA w (((w.alloc (.cells #[.int .i64 p, .slice ao n cap, .slice po k pcap, .slice eo m ecap, .int .i64 V, .slice so t scap] 33)).alloc (.cells #[.int .i64 K, .slice xo x xc, .int .i64 a, .int .i64 b] 35)).alloc (.cells #[.int .i64 0, .slice none 0 0, .slice none 0 0, .slice none 0 0, .int .i64 0, .slice none 0 0] 33)) p ao n cap po k pcap eo m ecap V so t scap := ⟨hA, vA⟩
  clear vA hA
  go_enter Tryz.func6, Tryz.ntmps6
  go_wp2_with fail
  generalize (((w.alloc (.cells #[.int .i64 p, .slice ao n cap, .slice po k pcap, .slice eo m ecap, .int .i64 V, .slice so t scap] 33)).alloc (.cells #[.int .i64 K, .slice xo x xc, .int .i64 a, .int .i64 b] 35)).alloc (.cells #[.int .i64 0, .slice none 0 0, .slice none 0 0, .slice none 0 0, .int .i64 0, .slice none 0 0] 33)) = W at hB vR ⊢
  refine (hDeed _ hB.bel).mono ?_
  rintro e w2 ⟨rfl, hb2⟩
  replace hB := hB.next hb2
  replace vR := vR.next hb2
  clear hb2 hDeed
  obtain ⟨y0, y1, y2, y3, y4, y5⟩ := hB.box.c6
  simp [sv6] at y0 y1 y2 y3 y4 y5
  go_wp2_with fail
  clear y0 y1 y2 y3 y4 y5
  refine (implServiceOk_any p ao n cap F T G po k pcap P eo m ecap L H V so t scap S hn hk hm ht _ (hr.below hB.bel nl) (hp.below hB.bel nl) (he.below hB.bel nl)).mono ?_
  rintro e w3 ⟨⟨bb, rfl, hbb⟩, hb3⟩
  obtain rfl : bb = true := hbb.2 HOK.out
  replace hB := hB.next hb3
  replace vR := vR.next hb3
  clear hb3 hbb HOK
  go_wp2_with fail
  have hd : RB w3 w3.drew := (Below.refl _ _).drew
  replace hB := hB.next hd
  replace vR := vR.next hd
  have h3 : w.heap.size + 3 ≤ w3.drew.heap.size := vR.lt
  refine region_mid (by kernel_rfl) (by kernel_rfl) (by kernel_rfl) 9 [0, 1, 2, 3, 4, 5, 6, 7, 8] [10] (by kernel_rfl) (by kernel_rfl) (fun u v => ∃ row, u.grownBy v row ∧ ∀ x, row = some x → Typed u x 9)
    (fun W' => SvA w W' p ao n cap po k pcap eo m ecap V so t scap ∧ VHas W' (w.heap.size + 1 + 1) 33 6 (sv6 0 (.slice none 0 0) (.slice none 0 0) (.slice none 0 0) 0 (.slice none 0 0))) (fun _ _ h hb => ⟨h.1.next hb, h.2.next hb⟩)
    [fun v _ => v = .iface D dv, fun v _ => v = .agg #[.int .i64 p, .slice ao n cap, .slice po k pcap, .slice eo m ecap, .int .i64 V, .slice so t scap], fun v _ => v = .iface D dv, fun v _ => v = .agg #[.int .i64 p, .slice ao n cap, .slice po k pcap, .slice eo m ecap, .int .i64 V, .slice so t scap], SvV w.heap.size p n F T G k P m L H V t S, fun v _ => v = .func (.method "loop.example/g00161/impl.done") #[.iface D dv] #[], fun v _ => v = .func (.method "loop.example/g00161/impl.done") #[.iface D dv] #[], fun v _ => v = .iface D dv, SvV w.heap.size p n F T G' k P m L H V' t S, SvV w.heap.size p n F T G' k P m L H V' t' S', BXS (w.heap.size + 3)]
    ⟨fun _ _ _ h _ => h, fun _ _ _ h _ => h, fun _ _ _ h _ => h, fun _ _ _ h _ => h, SvV.rb, fun _ _ _ h _ => h, fun _ _ _ h _ => h, fun _ _ _ h _ => h, SvV.rb, SvV.rb, BXS.rb, trivial⟩ rfl ?_ ?_ ?_ ?_ _ rfl rfl rfl
    (fun v W' => ∃ bx v9, v 10 = .pointer (some ⟨bx, 0, none⟩) ∧ w.heap.size + 3 ≤ bx ∧ SvV w.heap.size p n F T G' k P m L H V' t' S' v9 W' ∧ (∀ u, v9 = .agg (List.toArray u) → VHas W' bx 33 6 (lf u)) ∧ SvA w W' p ao n cap po k pcap eo m ecap V so t scap ∧ VHas W' (w.heap.size + 1 + 1) 33 6 (sv6 0 (.slice none 0 0) (.slice none 0 0) (.slice none 0 0) 0 (.slice none 0 0))) ?_ ?_
  · intro i hi v w1 w2 h hx
    simp at hi
    subst hi
    obtain ⟨row, hg, hT⟩ := hx
    obtain ⟨b', e, h1, h2⟩ := h
    exact ⟨b', e, h1, h2.gr hg hT (by decide)⟩
  · intro i hi o ho
    have hc : i = 0 ∨ i = 1 ∨ i = 2 ∨ i = 3 ∨ i = 4 ∨ i = 5 ∨ i = 6 ∨ i = 7 ∨ i = 8 := by simpa using hi
    rcases hc with rfl | rfl | rfl | rfl | rfl | rfl | rfl | rfl | rfl <;> (simp at ho; subst ho)
    · exact OpOk.get RB.refl _ (fun _ => rfl) fun ev w' v hR E pr => by simp [go_sem, E.was 5 (.iface D dv)]
    · exact OpOk.get RB.refl _ (fun _ => rfl) fun ev w' v hR E pr => by
        have e1 : ev (.tmp 2) = .pointer (some ⟨w.heap.size, 0, none⟩) := E.was 2 _
        have hv := (hB.next hR).box
        obtain ⟨y0, y1, y2, y3, y4, y5⟩ := hv.c6
        simp [sv6] at y0 y1 y2 y3 y4 y5
        simp [go_sem, e1, y0, y1, y2, y3, y4, y5]
    · exact OpOk.get RB.refl _ (fun _ => rfl) fun ev w' v hR E pr => by simp [go_sem, E.was 5 (.iface D dv)]
    · exact OpOk.get RB.refl _ (fun _ => rfl) fun ev w' v hR E pr => by
        have e1 : ev (.tmp 2) = .pointer (some ⟨w.heap.size, 0, none⟩) := E.was 2 _
        have hv := (hB.next hR).box
        obtain ⟨y0, y1, y2, y3, y4, y5⟩ := hv.c6
        simp [sv6] at y0 y1 y2 y3 y4 y5
        simp [go_sem, e1, y0, y1, y2, y3, y4, y5]
    · refine OpOk.call rfl fun ev w' v hR E pr => ?_
      have e1 : ev (.tmp 24) = _ := E.get pr 3 24
      have hb := (hB.next hR).bel
      refine ⟨24, #[.agg #[.int .i64 p, .slice ao n cap, .slice po k pcap, .slice eo m ecap, .int .i64 V, .slice so t scap]], by simp [go_sem, e1, E.fn], (copyOfService_any p ao n cap F T G po k pcap P eo m ecap L H V so t scap S hn hk hm ht _ (hr.below hb nl) (hp.below hb nl) (he.below hb nl) (hs.below hb nl)).mono ?_⟩
      rintro e w4 ⟨aoN, capN, poN, pcN, eoN, ecN, soN, scN, rfl, cR, cI, cE, cO, hb4⟩
      exact ⟨_, rfl, hb4, aoN, capN, poN, pcN, eoN, ecN, soN, scN, rfl, cR, cI, cE, cO.from hb.size⟩
    · exact OpOk.get RB.refl _ (fun _ => rfl) fun ev w' v hR E pr => by
        have e1 : ev (.tmp 23) = _ := E.get pr 2 23
        simp [go_sem, e1]
    · exact OpOk.get RB.refl _ (fun _ => rfl) fun ev w' v hR E pr => by
        have e1 : ev (.tmp 26) = _ := E.get pr 5 26
        simp [go_sem, e1, hnl]
    · exact OpOk.get RB.refl _ (fun _ => rfl) fun ev w' v hR E pr => by
        have e1 : ev (.tmp 23) = _ := E.get pr 2 23
        simp [go_sem, e1]
    · refine OpOk.call rfl fun ev w' v hR E pr => ?_
      have e1 : ev (.tmp 28) = .iface D dv := E.get pr 7 28
      obtain ⟨aoN, capN, poN, pcN, eoN, ecN, soN, scN, e2, cR, cI, cE, cO⟩ : SvV w.heap.size p n F T G k P m L H V t S (ev (.tmp 25)) w' := E.get pr 4 25
      refine ⟨fd, #[dv, .agg #[.int .i64 p, .slice aoN n capN, .slice poN k pcN, .slice eoN m ecN, .int .i64 V, .slice soN t scN]], by simp [go_sem, e1, e2, hat, hen], (HDn _ aoN capN poN pcN eoN ecN soN scN (hB.next hR).bel cR).mono ?_⟩
      rintro e w4 ⟨ao', cap', rfl, dR, hb8⟩
      exact ⟨_, rfl, hb8, ao', cap', poN, pcN, eoN, ecN, soN, scN, rfl, dR, cI.next hb8, cE.next hb8, cO.next hb8⟩
  · intro i h1 h2 h4 o ho
    have hc : i = 10 := by
      simp at h1 h4
      omega
    subst hc
    simp at ho
    subst ho
    intro ev w' v hR E pr
    refine ⟨.pointer (some ⟨w'.heap.size, 0, none⟩), w'.alloc (.cells #[.int .i64 0, .slice none 0 0, .slice none 0 0, .slice none 0 0, .int .i64 0, .slice none 0 0] 33), by simp [go_sem], RB.alloc _ _, w'.heap.size, rfl, ?_, sv6_new w' 0 (.slice none 0 0) (.slice none 0 0) (.slice none 0 0) 0 (.slice none 0 0) 33⟩
    rcases hR with hR | hR
    · exact Nat.le_trans h3 hR.size
    · exact hR.2.lt
  · intro o ho
    simp at ho
    subst ho
    refine MidOk.call fun ev w' v hR E pr => ?_
    have e0 : ev (.tmp 21) = _ := E.get pr 0 21
    have e1 : ev (.tmp 22) = _ := E.get pr 1 22
    obtain ⟨ao', cap', poN, pcN, eoN, ecN, soN, scN, e2, dR, cI, cE, cO⟩ : SvV w.heap.size p n F T G' k P m L H V' t S (ev (.tmp 29)) w' := E.get pr 8 29
    refine ⟨23, #[.iface D dv, .agg #[.int .i64 p, .slice ao n cap, .slice po k pcap, .slice eo m ecap, .int .i64 V, .slice so t scap], .agg #[.int .i64 p, .slice ao' n cap', .slice poN k pcN, .slice eoN m ecN, .int .i64 V', .slice soN t scN]], by simp [go_sem, e0, e1, e2, E.fn], (HAn _ ao' cap' poN pcN eoN ecN soN scN (hB.next hR).bel dR cI cE cO).mono ?_⟩
    rintro e w9 ⟨so', sc', rfl, hown, hg⟩
    have hT : ∀ x, (Value.slice soN t scN).ownBlock = some x → Typed w' x 9 := fun x e => cO.typed e
    have hB' := hB.next hR
    exact ⟨_, rfl, ⟨_, hg, hT⟩, ⟨⟨below_row hB'.bel hg (fun x e => (cO.at e).1), hB'.box.gr hg hT (by decide)⟩, (vR.next hR).gr hg hT (by decide)⟩, ao', cap', poN, pcN, eoN, ecN, so', sc', rfl, dR.gr hg hT (by decide), cI.gr hg hT (by decide), cE.gr hg hT (by decide), hown⟩
  · intro ev w' v hP E hk
    obtain ⟨ao', cap', poN, pcN, eoN, ecN, so', sc', e1, r1, r2, r3, r4⟩ := hk 9 (by simp)
    obtain ⟨bx, e2, hbx, vX⟩ := hk 10 (by simp)
    have E1 := E.at_ 9 30 rfl (by kernel_rfl) (Nat.le_of_ble_eq_true (by kernel_rfl))
    have E2 := E.at_ 10 7 rfl (by kernel_rfl) (Nat.le_of_ble_eq_true (by kernel_rfl))
    rw [e1] at E1
    rw [e2] at E2
    have hg := gr_setL bx [.int .i64 p, .slice ao' n cap', .slice poN k pcN, .slice eoN m ecN, .int .i64 V', .slice so' t' sc'] 0 w'
    have hT : ∀ x, some bx = some x → Typed w' x 33 := fun x e => by cases e; exact vX.typed
    refine ⟨_, exec_box [.int .i64 p, .slice ao' n cap', .slice poN k pcN, .slice eoN m ecN, .int .i64 V', .slice so' t' sc'] rfl E2 E1 vX (by kernel_rfl) (oneAll (by kernel_rfl)), fun v' hv' => ⟨bx, .agg #[.int .i64 p, .slice ao' n cap', .slice poN k pcN, .slice eoN m ecN, .int .i64 V', .slice so' t' sc'], by rw [hv' 10 (by simp)]; exact e2, hbx, ⟨ao', cap', poN, pcN, eoN, ecN, so', sc', rfl, r1.gr hg hT (by decide), r2.gr hg hT (by decide), r3.gr hg hT (by decide), r4.gr hg hT (by decide)⟩, fun u hu => ?_, ⟨below_row hP.1.bel hg (fun x e => by cases e; omega), hP.1.box.grown hg (fun e => by cases e; omega)⟩, hP.2.grown hg (fun e => by cases e; omega)⟩⟩
    have : u = [.int .i64 p, .slice ao' n cap', .slice poN k pcN, .slice eoN m ecN, .int .i64 V', .slice so' t' sc'] := by
      have := congrArg Array.toList (Value.agg.inj hu)
      simpa using this.symm
    subst this
    exact vhas_box _ vX
  · rintro v W8 ⟨bx, v9, e10, hbx, ⟨ao', cap', poN, pcN, eoN, ecN, so', sc', rfl, r1, r2, r3, r4⟩, vX, hB, vR⟩
    replace vX := vX [.int .i64 p, .slice ao' n cap', .slice poN k pcN, .slice eoN m ecN, .int .i64 V', .slice so' t' sc'] rfl
    simp only [putL, e10, Act.put, List.setIfInBounds_toArray, List.set_cons_zero, List.set_cons_succ]
    obtain ⟨o0, o1, o2, o3, o4, o5⟩ := vX.c6
    simp [lf] at o0 o1 o2 o3 o4 o5
    go_wp2_with fail
    refine (hasRoom_any p ao' poN eoN so' n cap' k pcN m ecN V' t' sc' ht' _).mono ?_
    rintro e w10 ⟨rfl, hb10⟩
    clear o0 o1 o2 o3 o4 o5
    replace hB := hB.next hb10
    replace vR := vR.next hb10
    replace vX := vX.next hb10
    replace r1 := r1.next hb10
    replace r2 := r2.next hb10
    replace r3 := r3.next hb10
    replace r4 := r4.next hb10
    clear hb10
    rcases Bool.eq_false_or_eq_true (roomB V' t') with hroom | hroom
    · rw [hroom]
      obtain ⟨o0, o1, o2, o3, o4, o5⟩ := vX.c6
      simp [lf] at o0 o1 o2 o3 o4 o5
      go_wp2_with (with_reducible refine wpList_store_box rfl 33 (.tmp 4) (.tmp 35) rfl rfl (w.heap.size + 1 + 1) [.int .i64 p, .slice ao' n cap', .slice poN k pcN, .slice eoN m ecN, .int .i64 V', .slice so' t' sc'] (by simp [go_sem]) (by simp [go_sem]) vR (by kernel_rfl) (oneAll (by kernel_rfl)) ?_; intro W9 hv9 hg9)
      have q0 := hv9.cell (j := 0) (by simp)
      have q1 := hv9.cell (j := 1) (by simp)
      have q2 := hv9.cell (j := 2) (by simp)
      have q3 := hv9.cell (j := 3) (by simp)
      have q4 := hv9.cell (j := 4) (by simp)
      have q5 := hv9.cell (j := 5) (by simp)
      simp [lf] at q0 q1 q2 q3 q4 q5
      have hBX := below_row hB.bel hg9 (fun x e => by cases e; omega)
      have hT9 : ∀ x, some (w.heap.size + 1 + 1) = some x → Typed _ x 33 := fun x e => by cases e; exact vR.typed
      exact bodyPost_ret (v := .agg #[.int .i64 p, .slice ao' n cap', .slice poN k pcN, .slice eoN m ecN, .int .i64 V', .slice so' t' sc']) (by simp [results, Tryz.results6, go_sem, q0, q1, q2, q3, q4, q5]) rfl ⟨fun _ => ⟨_, rfl, ao', cap', poN, pcN, eoN, ecN, so', sc', rfl, r1.gr hg9 hT9 (by decide), r2.gr hg9 hT9 (by decide), r3.gr hg9 hT9 (by decide), r4.gr hg9 hT9 (by decide)⟩, (fun h => by rw [hroom] at h; cases h), hBX⟩
    · rw [hroom]
      go_wp2_with (with_reducible refine wpList_store_box rfl 33 (.tmp 4) (.tmp 34) rfl rfl (w.heap.size + 1 + 1) [.int .i64 0, .slice none 0 0, .slice none 0 0, .slice none 0 0, .int .i64 0, .slice none 0 0] (by simp [go_sem]) (by simp [go_sem]) vR (by kernel_rfl) (oneAll (by kernel_rfl)) ?_; intro W9 hv9 hg9)
      have q0 := hv9.cell (j := 0) (by simp)
      have q1 := hv9.cell (j := 1) (by simp)
      have q2 := hv9.cell (j := 2) (by simp)
      have q3 := hv9.cell (j := 3) (by simp)
      have q4 := hv9.cell (j := 4) (by simp)
      have q5 := hv9.cell (j := 5) (by simp)
      simp [lf] at q0 q1 q2 q3 q4 q5
      have hBX := below_row hB.bel hg9 (fun x e => by cases e; omega)
      have hT9 : ∀ x, some (w.heap.size + 1 + 1) = some x → Typed _ x 33 := fun x e => by cases e; exact vR.typed
      exact bodyPost_ret (v := .agg #[.int .i64 0, .slice none 0 0, .slice none 0 0, .slice none 0 0, .int .i64 0, .slice none 0 0]) (by simp [results, Tryz.results6, go_sem, q0, q1, q2, q3, q4, q5]) rfl ⟨(fun h => by rw [hroom] at h; cases h), fun _ => rfl, hBX⟩
theorem apply_yes (p : Int) (ao : Option Addr) (n cap : Nat) (F T G : Nat → Int) (po : Option Addr) (k pcap : Nat) (P : Nat → Int) (eo : Option Addr) (m ecap : Nat) (L H : Nat → Int) (V : Int) (so : Option Addr) (t scap : Nat) (S : Nat → ByteArray) (K a b : Int) (xo : Option Addr) (x xc : Nat) (D : TypeId) (dv : Value) (fd : Nat) (G' : Nat → Int) (V' : Int) (t' : Nat) (S' : Nat → ByteArray) (hn : n ≤ 1048576) (hk : k ≤ 1048576) (hm : m ≤ 1048576) (ht : t ≤ 1048576) (ht' : t' ≤ 1048576) (w : World) (hr : Row w ao n F T G) (hp : IRow w po k P) (he : ERow w eo m L H) (hs : SRow w so t S) (hok : SOk p n F T G k P m L H V t)
    (hDeed : ∀ W, Below w.heap.size w W → Calls Tryz.prog 22 #[.agg #[.int .i64 K, .slice xo x xc, .int .i64 a, .int .i64 b]] W fun e w' => e = .returned (.tuple #[.iface D dv, .bool true]) ∧ Below W.heap.size W w')
    (hat : ∀ w, Sem.run Tryz.prog (method 308 D dv "loop.example/g00161/impl.done") w = .ok (fd, dv) w) (hen : ∀ args w, Sem.run Tryz.prog (callFunc fd args) w = .ok (.enter fd args) w) (hnl : ∀ w, Sem.run Tryz.prog (nilAhead 308 D dv "loop.example/g00161/impl.done") w = .ok (some false) w)
    (HDn : ∀ W aoN capN poN pcN eoN ecN soN scN, Below w.heap.size w W → TRow W 67 aoN (n * 3) (fun j => Value.int .i64 (ar F T G j)) → Calls Tryz.prog fd #[dv, .agg #[.int .i64 p, .slice aoN n capN, .slice poN k pcN, .slice eoN m ecN, .int .i64 V, .slice soN t scN]] W fun e w' => ∃ ao' cap', e = .returned (.agg #[.int .i64 p, .slice ao' n cap', .slice poN k pcN, .slice eoN m ecN, .int .i64 V', .slice soN t scN]) ∧ TRow w' 67 ao' (n * 3) (fun j => Value.int .i64 (ar F T G' j)) ∧ Below W.heap.size W w')
    (HAn : ∀ W ao' cap' poN pcN eoN ecN soN scN, Below w.heap.size w W → TRow W 67 ao' (n * 3) (fun j => Value.int .i64 (ar F T G' j)) → TRow W 2 poN (k * 1) (fun j => Value.int .i64 (P j)) → TRowC W 94 eoN (m * 2) (fun j => Value.int .i64 (er L H j)) m ecN → GOwn W w.heap.size 9 1 soN t scN (fun j => Value.string (S j)) → Calls Tryz.prog 23 #[.iface D dv, .agg #[.int .i64 p, .slice ao n cap, .slice po k pcap, .slice eo m ecap, .int .i64 V, .slice so t scap], .agg #[.int .i64 p, .slice ao' n cap', .slice poN k pcN, .slice eoN m ecN, .int .i64 V', .slice soN t scN]] W fun e w' => ∃ so' sc', e = .returned (.agg #[.int .i64 p, .slice ao' n cap', .slice poN k pcN, .slice eoN m ecN, .int .i64 V', .slice so' t' sc']) ∧ GOwn w' w.heap.size 9 1 so' t' sc' (fun j => Value.string (S' j)) ∧ W.grownBy w' (Value.slice soN t scN).ownBlock) (hroom : roomB V' t' = true) :
    Calls Tryz.prog 6 #[.agg #[.int .i64 p, .slice ao n cap, .slice po k pcap, .slice eo m ecap, .int .i64 V, .slice so t scap], .agg #[.int .i64 K, .slice xo x xc, .int .i64 a, .int .i64 b]] w fun e w' => ∃ ao' cap' poN pcN eoN ecN so' sc', e = .returned (.agg #[.int .i64 p, .slice ao' n cap', .slice poN k pcN, .slice eoN m ecN, .int .i64 V', .slice so' t' sc']) ∧ TRow w' 67 ao' (n * 3) (fun j => Value.int .i64 (ar F T G' j)) ∧ TRow w' 2 poN (k * 1) (fun j => Value.int .i64 (P j)) ∧ TRowC w' 94 eoN (m * 2) (fun j => Value.int .i64 (er L H j)) m ecN ∧ GOwn w' w.heap.size 9 1 so' t' sc' (fun j => Value.string (S' j)) ∧ Below w.heap.size w w' := by
  refine (apply_core p ao n cap F T G po k pcap P eo m ecap L H V so t scap S K a b xo x xc D dv fd G' V' t' S' hn hk hm ht ht' w hr hp he hs hok hDeed hat hen hnl HDn HAn).mono ?_
  rintro e w' ⟨h1, _, hb⟩
  obtain ⟨v, rfl, ao', cap', poN, pcN, eoN, ecN, so', sc', rfl, q1, q2, q3, q4⟩ := h1 hroom
  exact ⟨ao', cap', poN, pcN, eoN, ecN, so', sc', rfl, q1, q2, q3, q4, hb⟩
theorem apply_no (p : Int) (ao : Option Addr) (n cap : Nat) (F T G : Nat → Int) (po : Option Addr) (k pcap : Nat) (P : Nat → Int) (eo : Option Addr) (m ecap : Nat) (L H : Nat → Int) (V : Int) (so : Option Addr) (t scap : Nat) (S : Nat → ByteArray) (K a b : Int) (xo : Option Addr) (x xc : Nat) (D : TypeId) (dv : Value) (fd : Nat) (G' : Nat → Int) (V' : Int) (t' : Nat) (S' : Nat → ByteArray) (hn : n ≤ 1048576) (hk : k ≤ 1048576) (hm : m ≤ 1048576) (ht : t ≤ 1048576) (ht' : t' ≤ 1048576) (w : World) (hr : Row w ao n F T G) (hp : IRow w po k P) (he : ERow w eo m L H) (hs : SRow w so t S) (hok : SOk p n F T G k P m L H V t)
    (hDeed : ∀ W, Below w.heap.size w W → Calls Tryz.prog 22 #[.agg #[.int .i64 K, .slice xo x xc, .int .i64 a, .int .i64 b]] W fun e w' => e = .returned (.tuple #[.iface D dv, .bool true]) ∧ Below W.heap.size W w')
    (hat : ∀ w, Sem.run Tryz.prog (method 308 D dv "loop.example/g00161/impl.done") w = .ok (fd, dv) w) (hen : ∀ args w, Sem.run Tryz.prog (callFunc fd args) w = .ok (.enter fd args) w) (hnl : ∀ w, Sem.run Tryz.prog (nilAhead 308 D dv "loop.example/g00161/impl.done") w = .ok (some false) w)
    (HDn : ∀ W aoN capN poN pcN eoN ecN soN scN, Below w.heap.size w W → TRow W 67 aoN (n * 3) (fun j => Value.int .i64 (ar F T G j)) → Calls Tryz.prog fd #[dv, .agg #[.int .i64 p, .slice aoN n capN, .slice poN k pcN, .slice eoN m ecN, .int .i64 V, .slice soN t scN]] W fun e w' => ∃ ao' cap', e = .returned (.agg #[.int .i64 p, .slice ao' n cap', .slice poN k pcN, .slice eoN m ecN, .int .i64 V', .slice soN t scN]) ∧ TRow w' 67 ao' (n * 3) (fun j => Value.int .i64 (ar F T G' j)) ∧ Below W.heap.size W w')
    (HAn : ∀ W ao' cap' poN pcN eoN ecN soN scN, Below w.heap.size w W → TRow W 67 ao' (n * 3) (fun j => Value.int .i64 (ar F T G' j)) → TRow W 2 poN (k * 1) (fun j => Value.int .i64 (P j)) → TRowC W 94 eoN (m * 2) (fun j => Value.int .i64 (er L H j)) m ecN → GOwn W w.heap.size 9 1 soN t scN (fun j => Value.string (S j)) → Calls Tryz.prog 23 #[.iface D dv, .agg #[.int .i64 p, .slice ao n cap, .slice po k pcap, .slice eo m ecap, .int .i64 V, .slice so t scap], .agg #[.int .i64 p, .slice ao' n cap', .slice poN k pcN, .slice eoN m ecN, .int .i64 V', .slice soN t scN]] W fun e w' => ∃ so' sc', e = .returned (.agg #[.int .i64 p, .slice ao' n cap', .slice poN k pcN, .slice eoN m ecN, .int .i64 V', .slice so' t' sc']) ∧ GOwn w' w.heap.size 9 1 so' t' sc' (fun j => Value.string (S' j)) ∧ W.grownBy w' (Value.slice soN t scN).ownBlock) (hroom : roomB V' t' = false) :
    Calls Tryz.prog 6 #[.agg #[.int .i64 p, .slice ao n cap, .slice po k pcap, .slice eo m ecap, .int .i64 V, .slice so t scap], .agg #[.int .i64 K, .slice xo x xc, .int .i64 a, .int .i64 b]] w fun e w' => e = .returned (.agg #[.int .i64 0, .slice none 0 0, .slice none 0 0, .slice none 0 0, .int .i64 0, .slice none 0 0]) ∧ Below w.heap.size w w' := (apply_core p ao n cap F T G po k pcap P eo m ecap L H V so t scap S K a b xo x xc D dv fd G' V' t' S' hn hk hm ht ht' w hr hp he hs hok hDeed hat hen hnl HDn HAn).mono fun e w' h => ⟨h.2.1 hroom, h.2.2⟩
end
section
theorem cl_low {k m : Nat} {L H W : Nat → Int} {s : Nat} (hE : ∀ i, i < m → 0 ≤ L i ∧ L i < H i ∧ H i < (k : Int)) (hW : InF m W) : ∀ i, i ≤ m → ∀ r, r < s → cl L H W s i r = 1000000000000
  | 0, _, r, hr => by unfold cl; rw [if_neg (by omega)]
  | i + 1, hi, r, hr => by
    have h1 := hE i (by omega)
    have h2 := hW i (by omega)
    unfold cl
    split
    · rename_i e
      rw [cl_low hE hW i (by omega) _ (by omega), cl_low hE hW i (by omega) _ (by omega)]
      omega
    · exact cl_low hE hW i (by omega) r hr
theorem cl_zero {k m : Nat} {L H W : Nat → Int} {s : Nat} (hE : ∀ i, i < m → 0 ≤ L i ∧ L i < H i ∧ H i < (k : Int)) (hW : InF m W) : ∀ i, i ≤ m → cl L H W s i s = 0
  | 0, _ => by unfold cl; rw [if_pos rfl]
  | i + 1, hi => by
    have h1 := hE i (by omega)
    have h2 := hW i (by omega)
    unfold cl
    split
    · rename_i e
      rw [← e, cl_zero hE hW i (by omega), cl_low hE hW i (by omega) _ (by omega)]
      omega
    · exact cl_zero hE hW i (by omega)
section
variable {k m : Nat} {L H W : Nat → Int}
theorem ed_le {p : Int} (he : edB p L H m = true) {i j : Nat} (hij : i ≤ j) (hj : j < m) : L i ≤ L j := by
  by_cases e : i = j
  · subst e; exact Int.le_refl _
  · have := ed_rise m he j hj i (by omega)
    omega
theorem cl_down {s : Nat} (i : Nat) (r : Nat) : cl L H W s (i + 1) r ≤ cl L H W s i r := by
  rw [cl.eq_2]
  simp only
  split
  · rename_i e
    rw [← e]
    omega
  · exact Int.le_refl _
theorem cl_mono {s i r : Nat} : ∀ d, cl L H W s (i + d) r ≤ cl L H W s i r
  | 0 => Int.le_refl _
  | d + 1 => Int.le_trans (cl_down (i + d) r) (cl_mono d)
theorem cl_stay {s i r : Nat} (he : edB (k : Int) L H m = true) (hE : ∀ i, i < m → 0 ≤ L i ∧ L i < H i ∧ H i < (k : Int)) (hr : (r : Int) ≤ L i) : ∀ d, i + d ≤ m → cl L H W s (i + d) r = cl L H W s i r
  | 0, _ => rfl
  | d + 1, hd => by
    have h1 := cl_stay (s := s) he hE hr d (by omega)
    have h2 := ed_le he (show i ≤ i + d by omega) (by omega)
    have h3 := hE (i + d) (by omega)
    show cl L H W s ((i + d) + 1) r = _
    rw [cl.eq_2]
    simp only
    rw [if_neg (by omega), h1]
theorem cl_fix {s : Nat} (he : edB (k : Int) L H m = true) (hE : ∀ i, i < m → 0 ≤ L i ∧ L i < H i ∧ H i < (k : Int)) {i : Nat} (hi : i < m) : cl L H W s m (H i).toNat ≤ cl L H W s m (L i).toNat + W i := by
  have h1 : cl L H W s m (L i).toNat = cl L H W s i (L i).toNat := by
    have := cl_stay (s := s) (W := W) he hE (i := i) (r := (L i).toNat) (by have := hE i hi; omega) (m - i) (by omega)
    rwa [show i + (m - i) = m by omega] at this
  have h2 : cl L H W s m (H i).toNat ≤ cl L H W s (i + 1) (H i).toNat := by
    have := cl_mono (L := L) (H := H) (W := W) (s := s) (i := i + 1) (r := (H i).toNat) (m - (i + 1))
    rwa [show i + 1 + (m - (i + 1)) = m by omega] at this
  have h3 : cl L H W s (i + 1) (H i).toNat ≤ cl L H W s i (L i).toNat + W i := by
    rw [cl.eq_2]
    simp only
    rw [if_pos trivial]
    omega
  omega
theorem cl_then {s t : Nat} (he : edB (k : Int) L H m = true) (hE : ∀ i, i < m → 0 ≤ L i ∧ L i < H i ∧ H i < (k : Int)) (hW : InF m W) : ∀ i, i ≤ m → ∀ r, cl L H W s m r ≤ cl L H W s m t + cl L H W t i r
  | 0, _, r => by
    have h1 := cl_in (L := L) (H := H) s hW m nl r
    have h2 := cl_in (L := L) (H := H) s hW m nl t
    rw [cl.eq_1 L H W t]
    simp only
    split
    · rename_i e; subst e; omega
    · omega
  | i + 1, hi, r => by
    have ih := cl_then he hE hW (s := s) (t := t) i (by omega)
    have h1 := cl_in (L := L) (H := H) s hW m nl r
    have h2 := cl_in (L := L) (H := H) s hW m nl t
    rw [cl.eq_2 L H W t]
    simp only
    split
    · rename_i e
      have a := ih (H i).toNat
      have b := ih (L i).toNat
      have c := cl_fix (s := s) (W := W) he hE (i := i) (by omega)
      subst e
      omega
    · exact ih r
theorem cl_first {x : Nat} (he : edB (k : Int) L H m = true) (hE : ∀ i, i < m → 0 ≤ L i ∧ L i < H i ∧ H i < (k : Int)) (hW : InF m W) : ∀ i, i ≤ m → ∀ r, r ≠ x → cl L H W x i r < 1000000000000 → ∃ j, j < m ∧ (L j).toNat = x ∧ W j + cl L H W (H j).toNat m r ≤ cl L H W x i r
  | 0, _, r, hr, h => by
    rw [cl.eq_1 L H W x] at h
    simp only at h
    rw [if_neg hr] at h
    omega
  | i + 1, hi, r, hr, h => by
    have ih := cl_first he hE hW (x := x) i (by omega)
    rw [cl.eq_2 L H W x] at h ⊢
    simp only at h ⊢
    split
    · rename_i e
      rw [if_pos e] at h
      subst e
      by_cases hc : cl L H W x i (H i).toNat ≤ min 1000000000000 (cl L H W x i (L i).toNat + W i)
      · obtain ⟨j, hj, e1, e2⟩ := ih (H i).toNat hr (by omega)
        exact ⟨j, hj, e1, by omega⟩
      · by_cases hx : (L i).toNat = x
        · have z := cl_zero (s := (H i).toNat) hE hW m nl
          have y := cl_in (L := L) (H := H) x hW i (by omega) (L i).toNat
          exact ⟨i, by omega, hx, by omega⟩
        · have hw := hW i (by omega)
          obtain ⟨j, hj, e1, e2⟩ := ih (L i).toNat hx (by omega)
          have c := cl_fix (s := (H j).toNat) (W := W) he hE (i := i) (by omega)
          exact ⟨j, hj, e1, by omega⟩
    · rename_i e
      rw [if_neg e] at h
      exact ih r hr h
end
theorem mt_leS {A B : Nat → Int} : ∀ k, (mt A B k).2 ≤ 1000000000000 ∧ ∀ r, r < k → (mt A B k).2 ≤ A r + B r
  | 0 => ⟨by simp [mt], fun r hr => by omega⟩
  | k + 1 => by
    obtain ⟨h1, h2⟩ := mt_leS (A := A) (B := B) k
    unfold mt
    split
    · rename_i h
      refine ⟨by simp only; omega, fun r hr => ?_⟩
      by_cases e : r = k
      · subst e; simp only; omega
      · have := h2 r (by omega); simp only; omega
    · rename_i h
      refine ⟨h1, fun r hr => ?_⟩
      by_cases e : r = k
      · subst e; omega
      · exact h2 r (by omega)
theorem mt_atS {A B : Nat → Int} : ∀ k, (mt A B k).2 < 1000000000000 → ∃ r, r < k ∧ (mt A B k).2 = A r + B r
  | 0, h => by simp [mt] at h
  | k + 1, h => by
    unfold mt at h ⊢
    split
    · rename_i hl
      rw [if_pos hl] at h
      simp only at h ⊢
      exact ⟨k, by omega, by omega⟩
    · rename_i hl
      rw [if_neg hl] at h
      obtain ⟨r, hr, e⟩ := mt_atS k h
      exact ⟨r, by omega, e⟩
section
variable {k m : Nat} {L H U V : Nat → Int}
theorem way_down {a e r : Nat} (he : edB (k : Int) L H m = true) (hE : ∀ i, i < m → 0 ≤ L i ∧ L i < H i ∧ H i < (k : Int)) (hV : InF m V) (h : e < m) : cl L H V (L e).toNat m r ≤ V e + cl L H V (H e).toNat m r := by
  have h1 := cl_then (s := (L e).toNat) (t := (H e).toNat) he hE hV m nl r
  have h2 := cl_fix (s := (L e).toNat) (W := V) he hE h
  have h3 := cl_zero (s := (L e).toNat) hE hV m nl
  omega
theorem way_up {a : Nat} (hC : Chd (k : Int) m L H) (he : edB (k : Int) L H m = true) (hE : ∀ i, i < m → 0 ≤ L i ∧ L i < H i ∧ H i < (k : Int)) (hU : InF m U) (hV : InF m V) (hT : ∀ t, TOk m L H t → okT U V t) :
    ∀ d e r, e < m → r < k → k - (L e).toNat ≤ d → (mt (cl L H U a m) (cl L H V (H e).toNat m) k).2 ≤ cl L H U a m r + cl L H V (L e).toNat m r + U e
  | 0, e, r, h, hr, hd => by have := hE e h; omega
  | d + 1, e, r, h, hr, hd => by
    have he1 := hE e h
    obtain ⟨f1, f2⟩ := mt_leS (A := cl L H U a m) (B := cl L H V (H e).toNat m) k
    have u1 := hU e h
    have u2 := cl_in (L := L) (H := H) a hU m nl r
    have v2 := cl_in (L := L) (H := H) (L e).toNat hV m nl r
    by_cases hrx : r = (L e).toNat
    · have a1 := cl_fix (s := a) (W := U) he hE h
      have a2 := f2 (H e).toNat (by omega)
      have a3 := cl_zero (s := (H e).toNat) hE hV m nl
      rw [hrx]
      rw [hrx] at v2
      omega
    by_cases hf : cl L H V (L e).toNat m r < 1000000000000
    rotate_left
    · omega
    obtain ⟨j, hj, e1, e2⟩ := cl_first he hE hV m nl r hrx hf
    have hj1 := hE j hj
    have hje : L j = L e := by omega
    have w1 := hV j hj
    by_cases hxy : H j = H e
    · have a1 := f2 r hr
      rw [hxy] at e2
      omega
    by_cases hlt : H j < H e
    · have hje2 : j < e := by
        rcases Nat.lt_trichotomy j e with q | q | q
        · exact q
        · subst q; omega
        · have := ed_rise m he j hj e q; omega
      have hk := tok_of he hC.2 hje2 h hje.symm
      have ht := (hT _ hk).1
      obtain ⟨_, _, q3, _, q5, q6, q7⟩ := hk
      simp only at q3 q6 q7
      unfold upT at ht
      simp only at ht
      have ih := way_up (a := a) hC he hE hU hV hT d _ r q3 hr (by rw [q6]; omega)
      rw [q6, q7] at ih
      omega
    · have hje2 : e < j := by
        rcases Nat.lt_trichotomy j e with q | q | q
        · have := ed_rise m he e h j q; omega
        · subst q; omega
        · exact q
      have hk := tok_of he hC.2 hje2 hj hje
      have ht := (hT _ hk).2
      obtain ⟨_, _, q3, _, q5, q6, q7⟩ := hk
      simp only at q3 q6 q7
      unfold dnT at ht
      simp only at ht
      have a1 := way_down (a := a) (r := r) he hE hV q3
      rw [q6, q7] at a1
      have a2 := f2 r hr
      omega
end
section
variable {k m : Nat} {L H : Nat → Int}
theorem runT_same {s : (Nat → Int) × (Nat → Int)} {j : Nat} : ∀ l : List Tr, (∀ t ∈ l, t.2.2 ≠ j) → (runT s l).1 j = s.1 j ∧ (runT s l).2 j = s.2 j := by
  intro l
  induction l generalizing s with
  | nil => intro _; exact ⟨rfl, rfl⟩
  | cons t l ih =>
    intro h
    have h0 := h t (by simp)
    have h1 := ih (s := stT s t) (fun x hx => h x (by simp [hx]))
    have e : runT s (t :: l) = runT (stT s t) l := rfl
    rw [e, h1.1, h1.2]
    refine ⟨?_, ?_⟩
    · show stU s t j = s.1 j
      unfold stU
      rw [if_neg (fun q => h0 q.symm)]
    · show (if j = t.2.2 then min (s.2 t.2.2) (dnT (stU s t) s.2 t) else s.2 j) = s.2 j
      rw [if_neg (fun q => h0 q.symm)]
theorem stT_le (s : (Nat → Int) × (Nat → Int)) (t : Tr) (j : Nat) : (stT s t).1 j ≤ s.1 j ∧ (stT s t).2 j ≤ s.2 j := by
  refine ⟨?_, ?_⟩
  · show stU s t j ≤ s.1 j
    unfold stU
    split
    · rename_i e; rw [e]; omega
    · exact Int.le_refl _
  · show (if j = t.2.2 then min (s.2 t.2.2) (dnT (stU s t) s.2 t) else s.2 j) ≤ s.2 j
    split
    · rename_i e; rw [e]; omega
    · exact Int.le_refl _
theorem runT_le {s : (Nat → Int) × (Nat → Int)} {j : Nat} : ∀ l : List Tr, (runT s l).1 j ≤ s.1 j ∧ (runT s l).2 j ≤ s.2 j := by
  intro l
  induction l generalizing s with
  | nil => exact ⟨Int.le_refl _, Int.le_refl _⟩
  | cons t l ih =>
    have h1 := ih (s := stT s t)
    have h2 := stT_le s t j
    have e : runT s (t :: l) = runT (stT s t) l := rfl
    rw [e]
    omega
def Sorted (L : Nat → Int) : List Tr → Prop
  | [] => True
  | t :: l => (∀ x ∈ l, L t.1 ≤ L x.1) ∧ Sorted L l
theorem sorted_append {L : Nat → Int} : ∀ l l' : List Tr, Sorted L l → Sorted L l' → (∀ x ∈ l, ∀ y ∈ l', L x.1 ≤ L y.1) → Sorted L (l ++ l')
  | [], l', _, h2, _ => h2
  | t :: l, l', h1, h2, h3 => ⟨fun x hx => by
      rcases List.mem_append.1 hx with q | q
      · exact h1.1 x q
      · exact h3 t (by simp) x q, sorted_append l l' h1.2 h2 (fun x hx y hy => h3 x (by simp [hx]) y hy)⟩
theorem rowT_fst {n i : Nat} : ∀ f q, ∀ t ∈ rowT n L H i f q, t.1 = i
  | 0, q, t, ht => by simp [rowT] at ht
  | f + 1, q, t, ht => by
    unfold rowT at ht
    split at ht
    · rcases List.mem_cons.1 ht with e | e
      · rw [e]
      · exact rowT_fst f (q + 1) t e
    · simp at ht
theorem rowT_sorted {n i : Nat} : ∀ f q, Sorted L (rowT n L H i f q)
  | 0, q => by simp [rowT, Sorted]
  | f + 1, q => by
    unfold rowT
    split
    · exact ⟨fun x hx => by rw [rowT_fst f (q + 1) x hx]; exact Int.le_refl _, rowT_sorted f (q + 1)⟩
    · trivial
theorem allT_fst {n : Nat} : ∀ i, ∀ t ∈ allT n L H i, t.1 < i
  | 0, t, ht => by simp [allT] at ht
  | i + 1, t, ht => by
    unfold allT at ht
    rcases List.mem_append.1 ht with e | e
    · have := allT_fst i t e; omega
    · rw [rowT_fst _ _ t e]; omega
theorem allT_sorted {p : Int} (he : edB p L H m = true) : ∀ i, i ≤ m → Sorted L (allT m L H i)
  | 0, _ => by simp [allT, Sorted]
  | i + 1, hi => by
    unfold allT
    refine sorted_append _ _ (allT_sorted he i (by omega)) (rowT_sorted _ _) (fun x hx y hy => ?_)
    have h1 := allT_fst i x hx
    rw [rowT_fst _ _ y hy]
    have := ed_rise m he i (by omega) x.1 h1
    omega
theorem runT_ok {s : (Nat → Int) × (Nat → Int)} (hE : ∀ i, i < m → 0 ≤ L i ∧ L i < H i ∧ H i < (k : Int)) : ∀ l : List Tr, (∀ t ∈ l, TOk m L H t) → Sorted L l → ∀ t ∈ l, okT (runT s l).1 (runT s l).2 t := by
  intro l
  induction l generalizing s with
  | nil => intro _ _ t ht; simp at ht
  | cons x l ih =>
    intro h1 h2 t ht
    have e : runT s (x :: l) = runT (stT s x) l := rfl
    rw [e]
    rcases List.mem_cons.1 ht with q | q
    · subst q
      obtain ⟨a1, a2, a3, a4, a5, a6, a7⟩ := h1 t (by simp)
      have fix : ∀ j, j < m → L j = L t.1 → (runT (stT s t) l).1 j = (stT s t).1 j ∧ (runT (stT s t) l).2 j = (stT s t).2 j := fun j hj hL => runT_same l (fun y hy e => by
        obtain ⟨b1, b2, b3, b4, b5, b6, b7⟩ := h1 y (by simp [hy])
        have c1 := h2.1 y hy
        have c2 := hE y.1 b1
        rw [← e] at hL
        omega)
      have g1 := fix t.1 a1 rfl
      have g2 := fix t.2.1 a2 a5
      have g3 := runT_le (s := stT s t) (j := t.2.2) l
      have n1 : t.1 ≠ t.2.2 := fun e => by have := hE t.1 a1; rw [← e] at a6; omega
      have n2 : t.2.1 ≠ t.2.2 := fun e => by have := hE t.1 a1; rw [← e] at a6; omega
      have u1 : (stT s t).1 t.2.1 = s.1 t.2.1 := by show stU s t t.2.1 = _; unfold stU; rw [if_neg n2]
      have u2 : (stT s t).1 t.1 = s.1 t.1 := by show stU s t t.1 = _; unfold stU; rw [if_neg n1]
      have v1 : (stT s t).2 t.1 = s.2 t.1 := by show (if t.1 = t.2.2 then min (s.2 t.2.2) (dnT (stU s t) s.2 t) else s.2 t.1) = _; rw [if_neg n1]
      have v2 : (stT s t).2 t.2.1 = s.2 t.2.1 := by show (if t.2.1 = t.2.2 then min (s.2 t.2.2) (dnT (stU s t) s.2 t) else s.2 t.2.1) = _; rw [if_neg n2]
      have u3 : (stT s t).1 t.2.2 ≤ upT s.1 s.2 t := by show stU s t t.2.2 ≤ _; unfold stU; rw [if_pos rfl]; omega
      have v3 : (stT s t).2 t.2.2 ≤ dnT (stU s t) s.2 t := by show (if t.2.2 = t.2.2 then min (s.2 t.2.2) (dnT (stU s t) s.2 t) else s.2 t.2.2) ≤ _; rw [if_pos rfl]; omega
      have w2 : stU s t t.1 = s.1 t.1 := u2
      unfold okT upT dnT
      unfold upT at u3
      unfold dnT at v3
      rw [w2] at v3
      rw [g1.1, g1.2, g2.1, g2.2, u1, u2, v1, v2]
      omega
    · exact ih (s := stT s x) (fun y hy => h1 y (by simp [hy])) h2.2 t q
end
end
end Go.Proofs.YthmpliljffmmcaaGreatDoor
