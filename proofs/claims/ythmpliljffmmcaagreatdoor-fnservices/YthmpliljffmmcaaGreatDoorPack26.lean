/-
  Helpers: ApS.
-/
import Derived.Test.YthmpliljffmmcaaGreatDoorPack1
import Derived.Test.YthmpliljffmmcaaGreatDoorPack13
import Derived.Test.YthmpliljffmmcaaGreatDoorPack17
import Derived.Test.YthmpliljffmmcaaGreatDoorPack18
import Derived.Test.YthmpliljffmmcaaGreatDoorPack24
import Derived.Test.YthmpliljffmmcaaGreatDoorPack25
import Derived.Test.YthmpliljffmmcaaGreatDoorPack12
set_option linter.unusedVariables false
set_option linter.unusedSimpArgs false
namespace Go.Proofs.YthmpliljffmmcaaGreatDoor
section
open Go.RowKit Go.Maps Go.Deep Go.Joins
attribute [local go_sem ↓] Go.wp_at_zero Go.wp_at_succ
def cq4 (K : Int) (s : Value) (a b : Int) (j : Nat) : Value := if j = 0 then .int .i64 K else if j = 1 then s else if j = 2 then .int .i64 a else .int .i64 b
theorem cq4_new (w : World) (K : Int) (s : Value) (a b : Int) (t : TypeId) : VHas (w.alloc (.cells #[.int .i64 K, s, .int .i64 a, .int .i64 b] t)) w.heap.size t 4 (cq4 K s a b) :=
  ⟨_, Go.Deep.blk_alloc_new _ _, by simp, fun j hj => by
    have : j = 0 ∨ j = 1 ∨ j = 2 ∨ j = 3 := by omega
    rcases this with rfl | rfl | rfl | rfl <;> rfl⟩
structure ApB (w W : World) (K : Int) (xo : Option Addr) (x xc : Nat) (a b : Int) (p : Int) (ao : Option Addr) (n cap : Nat) (po : Option Addr) (k pcap : Nat) (eo : Option Addr) (m ecap : Nat) (V : Int) (so : Option Addr) (t scap : Nat) : Prop where
  sv : SvA w W p ao n cap po k pcap eo m ecap V so t scap
  cm : VHas W (w.heap.size + 1) 35 4 (cq4 K (.slice xo x xc) a b)
theorem ApB.next {w W W' : World} {K : Int} {xo : Option Addr} {x xc : Nat} {a b : Int} {p : Int} {ao : Option Addr} {n cap : Nat} {po : Option Addr} {k pcap : Nat} {eo : Option Addr} {m ecap : Nat} {V : Int} {so : Option Addr} {t scap : Nat} (h : ApB w W K xo x xc a b p ao n cap po k pcap eo m ecap V so t scap) (hb : Below W.heap.size W W') : ApB w W' K xo x xc a b p ao n cap po k pcap eo m ecap V so t scap := ⟨h.sv.next hb, h.cm.next hb⟩
theorem l1Int_v (v : Int) (h0 : 0 ≤ v) (h1 : v ≤ 1000000) (w : World) : Calls Tryz.prog 30 #[.int .i64 v] w fun e w' => e = .returned (txt (Lib.decDigits v.toNat)) ∧ Below w.heap.size w w' := by
  obtain ⟨N, rfl⟩ := Int.eq_ofNat_of_zero_le h0
  exact l1Int_any N (by omega) w
def SvOutT (w w' : World) (e : Ending) (F T P L H : Nat → Int) (r : SvR) : Prop :=
  ∃ ao' cap' poN pcN eoN ecN so' sc', e = .returned (.agg #[.int .i64 r.p, .slice ao' r.n cap', .slice poN r.k pcN, .slice eoN r.m ecN, .int .i64 r.V, .slice so' r.t sc']) ∧ TRow w' 67 ao' (r.n * 3) (fun j => Value.int .i64 (ar F T r.G j)) ∧ TRow w' 2 poN (r.k * 1) (fun j => Value.int .i64 (P j)) ∧ TRowC w' 94 eoN (r.m * 2) (fun j => Value.int .i64 (er L H j)) r.m ecN ∧ TRow w' 9 so' (r.t * 1) (fun j => Value.string (r.S j)) ∧ Below w.heap.size w w'
theorem SvOutT.out {w w' : World} {e : Ending} {F T P L H : Nat → Int} {r : SvR} (h : SvOutT w w' e F T P L H r) : SvOut w w' e F T P L H r := by
  obtain ⟨ao', cap', poN, pcN, eoN, ecN, so', sc', rfl, q1, q2, q3, q4, q5⟩ := h
  exact ⟨ao', cap', poN, pcN, eoN, ecN, so', sc', rfl, trow_arcs q1, GRow.i q2.row, GRow.e q3.row, GRow.s q4.row, q5⟩
theorem svOutT_zero {w w' : World} {F T P L H G : Nat → Int} {S : Nat → ByteArray} (hb : Below w.heap.size w w') : SvOutT w w' (.returned (.agg #[.int .i64 0, .slice none 0 0, .slice none 0 0, .slice none 0 0, .int .i64 0, .slice none 0 0])) F T P L H (svZ G S) :=
  ⟨none, 0, none, 0, none, 0, none, 0, rfl, fun h => by simp [svZ] at h, fun h => by simp [svZ] at h, ⟨fun h => by simp [svZ] at h, by simp [svZ]⟩, fun h => by simp [svZ] at h, hb⟩
structure SvXs (w : World) (ob : Nat) (W : World) (K : Int) (xo : Option Addr) (x xc : Nat) (a b : Int) (p : Int) (ao : Option Addr) (n cap : Nat) (po : Option Addr) (k pcap : Nat) (eo : Option Addr) (m ecap : Nat) (V : Int) (so : Option Addr) (t scap : Nat) (aoN : Option Addr) (capN : Nat) (poN : Option Addr) (pcN : Nat) (eoN : Option Addr) (ecN : Nat) (V2 : Int) (soN : Option Addr) (tN scN : Nat) (F T G P L H : Nat → Int) : Prop where
  b : ApB w W K xo x xc a b p ao n cap po k pcap eo m ecap V so t scap
  r : VHas W (w.heap.size + 1 + 1) 33 6 (sv6 0 (.slice none 0 0) (.slice none 0 0) (.slice none 0 0) 0 (.slice none 0 0))
  o : VHas W ob 33 6 (sv6 p (.slice aoN n capN) (.slice poN k pcN) (.slice eoN m ecN) V2 (.slice soN tN scN))
  cr : TRow W 67 aoN (n * 3) (fun j => Value.int .i64 (ar F T G j))
  ci : TRow W 2 poN (k * 1) (fun j => Value.int .i64 (P j))
  ce : TRowC W 94 eoN (m * 2) (fun j => Value.int .i64 (er L H j)) m ecN
abbrev SvX (w : World) (ob : Nat) (W : World) (K : Int) (xo : Option Addr) (x xc : Nat) (a b : Int) (p : Int) (ao : Option Addr) (n cap : Nat) (po : Option Addr) (k pcap : Nat) (eo : Option Addr) (m ecap : Nat) (V : Int) (so : Option Addr) (t scap : Nat) (aoN : Option Addr) (capN : Nat) (poN : Option Addr) (pcN : Nat) (eoN : Option Addr) (ecN : Nat) (V2 : Int) (soN : Option Addr) (scN : Nat) (F T G P L H : Nat → Int) : Prop := SvXs w ob W K xo x xc a b p ao n cap po k pcap eo m ecap V so t scap aoN capN poN pcN eoN ecN V2 soN t scN F T G P L H
section
variable {w : World} {ob : Nat} {W W' : World} {K : Int} {xo : Option Addr} {x xc : Nat} {a b : Int} {p : Int} {ao : Option Addr} {n cap : Nat} {po : Option Addr} {k pcap : Nat} {eo : Option Addr} {m ecap : Nat} {V : Int} {so : Option Addr} {t scap : Nat} {aoN : Option Addr} {capN : Nat} {poN : Option Addr} {pcN : Nat} {eoN : Option Addr} {ecN : Nat} {V2 : Int} {soN : Option Addr} {tN scN : Nat} {F T G P L H : Nat → Int}
theorem SvXs.next (h : SvXs w ob W K xo x xc a b p ao n cap po k pcap eo m ecap V so t scap aoN capN poN pcN eoN ecN V2 soN tN scN F T G P L H) (hb : Below W.heap.size W W') : SvXs w ob W' K xo x xc a b p ao n cap po k pcap eo m ecap V so t scap aoN capN poN pcN eoN ecN V2 soN tN scN F T G P L H := ⟨h.b.next hb, h.r.next hb, h.o.next hb, h.cr.next hb, h.ci.next hb, h.ce.next hb⟩
theorem SvXs.gr (h : SvXs w ob W K xo x xc a b p ao n cap po k pcap eo m ecap V so t scap aoN capN poN pcN eoN ecN V2 soN tN scN F T G P L H) {row : Option Nat} (hg : W.grownBy W' row) (hx : ∀ x, row = some x → Typed W x 9) (hb : ∀ x, row = some x → w.heap.size ≤ x) : SvXs w ob W' K xo x xc a b p ao n cap po k pcap eo m ecap V so t scap aoN capN poN pcN eoN ecN V2 soN tN scN F T G P L H :=
  ⟨⟨⟨below_row h.b.sv.bel hg hb, h.b.sv.box.gr hg hx (by decide)⟩, h.b.cm.gr hg hx (by decide)⟩, h.r.gr hg hx (by decide), h.o.gr hg hx (by decide), h.cr.gr hg hx (by decide), h.ci.gr hg hx (by decide), h.ce.gr hg hx (by decide)⟩
theorem SvXs.set (h : SvXs w ob W K xo x xc a b p ao n cap po k pcap eo m ecap V so t scap aoN capN poN pcN eoN ecN V2 soN tN scN F T G P L H) (hob : w.heap.size + 3 ≤ ob) {so' : Option Addr} {t' sc' : Nat} : SvXs w ob (W.setCell ⟨ob, 5, none⟩ (.slice so' t' sc')) K xo x xc a b p ao n cap po k pcap eo m ecap V so t scap aoN capN poN pcN eoN ecN V2 so' t' sc' F T G P L H :=
  have hg := gr_setCell W ob 5 (.slice so' t' sc')
  have hx : ∀ x, some ob = some x → Typed W x 33 := fun x e => by cases e; exact h.o.typed
  ⟨⟨⟨below_row h.b.sv.bel hg (fun x e => by cases e; omega), h.b.sv.box.other (by omega) _⟩, h.b.cm.other (by omega) _⟩, h.r.other (by omega) _, (h.o.set 5 (.slice so' t' sc')).congr (fun j hj => by
    have : j = 0 ∨ j = 1 ∨ j = 2 ∨ j = 3 ∨ j = 4 ∨ j = 5 := by omega
    rcases this with rfl | rfl | rfl | rfl | rfl | rfl <;> rfl), h.cr.gr hg hx (by decide), h.ci.gr hg hx (by decide), h.ce.gr hg hx (by decide)⟩
theorem SvXs.ver (h : SvXs w ob W K xo x xc a b p ao n cap po k pcap eo m ecap V so t scap aoN capN poN pcN eoN ecN V2 soN tN scN F T G P L H) (hob : w.heap.size + 3 ≤ ob) {V' : Int} : SvXs w ob (W.setCell ⟨ob, 4, none⟩ (.int .i64 V')) K xo x xc a b p ao n cap po k pcap eo m ecap V so t scap aoN capN poN pcN eoN ecN V' soN tN scN F T G P L H :=
  have hg := gr_setCell W ob 4 (.int .i64 V')
  have hx : ∀ x, some ob = some x → Typed W x 33 := fun x e => by cases e; exact h.o.typed
  ⟨⟨⟨below_row h.b.sv.bel hg (fun x e => by cases e; omega), h.b.sv.box.other (by omega) _⟩, h.b.cm.other (by omega) _⟩, h.r.other (by omega) _, (h.o.set 4 (.int .i64 V')).congr (fun j hj => by
    have : j = 0 ∨ j = 1 ∨ j = 2 ∨ j = 3 ∨ j = 4 ∨ j = 5 := by omega
    rcases this with rfl | rfl | rfl | rfl | rfl | rfl <;> rfl), h.cr.gr hg hx (by decide), h.ci.gr hg hx (by decide), h.ce.gr hg hx (by decide)⟩
theorem SvXs.part (h : SvXs w ob W K xo x xc a b p ao n cap po k pcap eo m ecap V so t scap aoN capN poN pcN eoN ecN V2 soN tN scN F T G P L H) (hob : w.heap.size + 3 ≤ ob) {ao' : Option Addr} {cap' : Nat} {G' : Nat → Int} (hg : W.grownBy W' (some ob)) (hv : VHas W' ob 33 6 (fun j => if j < [Value.int .i64 p, Value.slice ao' n cap'].length then lf [Value.int .i64 p, Value.slice ao' n cap'] j else sv6 p (.slice aoN n capN) (.slice poN k pcN) (.slice eoN m ecN) V2 (.slice soN tN scN) j))
    (hc : TRow W' 67 ao' (n * 3) (fun j => Value.int .i64 (ar F T G' j))) : SvXs w ob W' K xo x xc a b p ao n cap po k pcap eo m ecap V so t scap ao' cap' poN pcN eoN ecN V2 soN tN scN F T G' P L H :=
  have hx : ∀ x, some ob = some x → Typed W x 33 := fun x e => by cases e; exact h.o.typed
  ⟨⟨⟨below_row h.b.sv.bel hg (fun x e => by cases e; omega), h.b.sv.box.grown hg (fun e => by cases e; omega)⟩, h.b.cm.gr hg hx (by decide)⟩, h.r.grown hg (fun e => by cases e; omega), hv.congr (fun j hj => by
    have : j = 0 ∨ j = 1 ∨ j = 2 ∨ j = 3 ∨ j = 4 ∨ j = 5 := by omega
    rcases this with rfl | rfl | rfl | rfl | rfl | rfl <;> rfl), hc, h.ci.gr hg hx (by decide), h.ce.gr hg hx (by decide)⟩
end
set_option maxRecDepth 100000 in
set_option maxHeartbeats 8000000 in
theorem specApply_t (p : Int) (ao : Option Addr) (n cap : Nat) (F T G : Nat → Int) (po : Option Addr) (k pcap : Nat) (P : Nat → Int) (eo : Option Addr) (m ecap : Nat) (L H : Nat → Int) (V : Int) (so : Option Addr) (t scap : Nat) (S : Nat → ByteArray) (K a b : Int) (xo : Option Addr) (x xc : Nat) (A B C : Nat → Int) (hn : n ≤ 1048576) (hk : k ≤ 1048576) (hm : m ≤ 1048576) (ht : t ≤ 1000000) (hx : x ≤ 1048576) (w : World) (hr : Row w ao n F T G) (hp : IRow w po k P) (he : ERow w eo m L H) (hs : SRow w so t S) (hc : Row w xo x A B C) :
    Calls Tryz.prog 8 #[.agg #[.int .i64 p, .slice ao n cap, .slice po k pcap, .slice eo m ecap, .int .i64 V, .slice so t scap], .agg #[.int .i64 K, .slice xo x xc, .int .i64 a, .int .i64 b]] w fun e w' => SvOutT w w' e F T P L H (apR p n F T G k P m L H V t S K x A B C a b) := by
  have hA : Below w.heap.size w (((w.alloc (.cells #[.int .i64 p, .slice ao n cap, .slice po k pcap, .slice eo m ecap, .int .i64 V, .slice so t scap] 33)).alloc (.cells #[.int .i64 K, .slice xo x xc, .int .i64 a, .int .i64 b] 35)).alloc (.cells #[.int .i64 0, .slice none 0 0, .slice none 0 0, .slice none 0 0, .int .i64 0, .slice none 0 0] 33)) := (((Below.refl _ _).alloc nl _).alloc (by simp) _).alloc (by simp; omega) _
  have vA := ((sv6_new w p (.slice ao n cap) (.slice po k pcap) (.slice eo m ecap) V (.slice so t scap) 33).alloc (.cells #[.int .i64 K, .slice xo x xc, .int .i64 a, .int .i64 b] 35)).alloc (.cells #[.int .i64 0, .slice none 0 0, .slice none 0 0, .slice none 0 0, .int .i64 0, .slice none 0 0] 33)
  have vC := (cq4_new (w.alloc (.cells #[.int .i64 p, .slice ao n cap, .slice po k pcap, .slice eo m ecap, .int .i64 V, .slice so t scap] 33)) K (.slice xo x xc) a b 35).alloc (.cells #[.int .i64 0, .slice none 0 0, .slice none 0 0, .slice none 0 0, .int .i64 0, .slice none 0 0] 33)
  have vR := sv6_new ((w.alloc (.cells #[.int .i64 p, .slice ao n cap, .slice po k pcap, .slice eo m ecap, .int .i64 V, .slice so t scap] 33)).alloc (.cells #[.int .i64 K, .slice xo x xc, .int .i64 a, .int .i64 b] 35)) 0 (.slice none 0 0) (.slice none 0 0) (.slice none 0 0) 0 (.slice none 0 0) 33
  simp only [World.size_alloc] at vC vR
  have hB : ApB w (((w.alloc (.cells #[.int .i64 p, .slice ao n cap, .slice po k pcap, .slice eo m ecap, .int .i64 V, .slice so t scap] 33)).alloc (.cells #[.int .i64 K, .slice xo x xc, .int .i64 a, .int .i64 b] 35)).alloc (.cells #[.int .i64 0, .slice none 0 0, .slice none 0 0, .slice none 0 0, .int .i64 0, .slice none 0 0] 33)) K xo x xc a b p ao n cap po k pcap eo m ecap V so t scap := ⟨⟨hA, vA⟩, vC⟩
  clear vA vC hA
  go_enter Tryz.func8, Tryz.ntmps8
  go_wp2_with fail
  generalize (((w.alloc (.cells #[.int .i64 p, .slice ao n cap, .slice po k pcap, .slice eo m ecap, .int .i64 V, .slice so t scap] 33)).alloc (.cells #[.int .i64 K, .slice xo x xc, .int .i64 a, .int .i64 b] 35)).alloc (.cells #[.int .i64 0, .slice none 0 0, .slice none 0 0, .slice none 0 0, .int .i64 0, .slice none 0 0] 33)) = W at hB vR ⊢
  refine (specServiceOk_any p ao n cap F T G po k pcap P eo m ecap L H V so t scap S hn hk hm (by omega) _ (hr.below hB.sv.bel nl) (hp.below hB.sv.bel nl) (he.below hB.sv.bel nl)).mono ?_
  rintro e w2 ⟨⟨bb, rfl, hbb⟩, hb2⟩
  replace hB := hB.next hb2
  replace vR := vR.next hb2
  have zer : ∀ w', Below w.heap.size w w' → apR p n F T G k P m L H V t S K x A B C a b = svZ G S → SvOutT w w' (.returned (.agg #[.int .i64 0, .slice none 0 0, .slice none 0 0, .slice none 0 0, .int .i64 0, .slice none 0 0])) F T P L H (apR p n F T G k P m L H V t S K x A B C a b) := fun w' h1 h2 => by
    rw [h2]
    exact svOutT_zero h1
  cases bb
  · have hno : ¬ SOk p n F T G k P m L H V t := fun h => by cases hbb.2 h
    clear hbb hb2
    go_wp2_with (with_reducible refine wpList_store_box rfl 33 (.tmp 4) (.tmp 27) rfl rfl (w.heap.size + 1 + 1) [.int .i64 0, .slice none 0 0, .slice none 0 0, .slice none 0 0, .int .i64 0, .slice none 0 0] (by simp [go_sem]) (by simp [go_sem]) vR (by kernel_rfl) (oneAll (by kernel_rfl)) ?_; intro W9 hv9 hg9)
    have q0 := hv9.cell (j := 0) (by simp)
    have q1 := hv9.cell (j := 1) (by simp)
    have q2 := hv9.cell (j := 2) (by simp)
    have q3 := hv9.cell (j := 3) (by simp)
    have q4 := hv9.cell (j := 4) (by simp)
    have q5 := hv9.cell (j := 5) (by simp)
    simp [lf] at q0 q1 q2 q3 q4 q5
    have hBX := below_row hB.sv.bel hg9 (fun x e => by cases e; omega)
    have hT9 : ∀ x, some (w.heap.size + 1 + 1) = some x → Typed _ x 33 := fun x e => by cases e; exact vR.typed
    exact bodyPost_ret (v := .agg #[.int .i64 0, .slice none 0 0, .slice none 0 0, .slice none 0 0, .int .i64 0, .slice none 0 0]) (by simp [results, Tryz.results8, go_sem, q0, q1, q2, q3, q4, q5]) rfl (zer _ hBX (apR_no (fun h => hno h.1.1)))
  have HOK : Hid (SOk p n F T G k P m L H V t) := hbb.1 rfl
  have hrm := room_of HOK.out.2
  clear hbb hb2
  obtain ⟨x0, x1, x2, x3, x4, x5⟩ := hB.sv.box.c6
  obtain ⟨y0, y1, y2, y3⟩ := hB.cm.c4
  simp [sv6, cq4] at x0 x1 x2 x3 x4 x5 y0 y1 y2 y3
  go_wp2_with fail
  refine (specCommandOk_any K xo x xc A B C a b hx w2 (hc.below hB.sv.bel nl)).mono ?_
  rintro e w3 ⟨rfl, hb3⟩
  clear x0 x1 x2 x3 x4 x5 y0 y1 y2 y3
  replace hB := hB.next hb3
  replace vR := vR.next hb3
  clear hb3
  rcases Bool.eq_false_or_eq_true (cmdB K x A B C a b) with hcm | hcm
  rotate_left
  · rw [hcm]
    go_wp2_with (with_reducible refine wpList_store_box rfl 33 (.tmp 4) (.tmp 27) rfl rfl (w.heap.size + 1 + 1) [.int .i64 0, .slice none 0 0, .slice none 0 0, .slice none 0 0, .int .i64 0, .slice none 0 0] (by simp [go_sem]) (by simp [go_sem]) vR (by kernel_rfl) (oneAll (by kernel_rfl)) ?_; intro W9 hv9 hg9)
    have q0 := hv9.cell (j := 0) (by simp)
    have q1 := hv9.cell (j := 1) (by simp)
    have q2 := hv9.cell (j := 2) (by simp)
    have q3 := hv9.cell (j := 3) (by simp)
    have q4 := hv9.cell (j := 4) (by simp)
    have q5 := hv9.cell (j := 5) (by simp)
    simp [lf] at q0 q1 q2 q3 q4 q5
    have hBX := below_row hB.sv.bel hg9 (fun x e => by cases e; omega)
    have hT9 : ∀ x, some (w.heap.size + 1 + 1) = some x → Typed _ x 33 := fun x e => by cases e; exact vR.typed
    exact bodyPost_ret (v := .agg #[.int .i64 0, .slice none 0 0, .slice none 0 0, .slice none 0 0, .int .i64 0, .slice none 0 0]) (by simp [results, Tryz.results8, go_sem, q0, q1, q2, q3, q4, q5]) rfl (zer _ hBX (apR_no (fun h => by rw [hcm] at h; cases h.1.2)))
  rw [hcm]
  have fin : ∀ W e (r : SvR) (hq : apD p n F T G k P m L H V t S K x A B C a b = r) (hb : roomB r.V r.t = true) {ao' cap' poN pcN eoN ecN so' sc'}, e = .returned (.agg #[.int .i64 r.p, .slice ao' r.n cap', .slice poN r.k pcN, .slice eoN r.m ecN, .int .i64 r.V, .slice so' r.t sc']) → TRow W 67 ao' (r.n * 3) (fun j => Value.int .i64 (ar F T r.G j)) → TRow W 2 poN (r.k * 1) (fun j => Value.int .i64 (P j)) → TRowC W 94 eoN (r.m * 2) (fun j => Value.int .i64 (er L H j)) r.m ecN → GOwn W w.heap.size 9 1 so' r.t sc' (fun j => Value.string (r.S j)) → Below w.heap.size w W → SvOutT w W e F T P L H (apR p n F T G k P m L H V t S K x A B C a b) := fun W e r hq hb _ _ _ _ _ _ _ _ e1 q1 q2 q3 q4 q5 => by
    rw [apR_yes HOK.out hcm (by rw [hq]; exact hb), hq]
    exact ⟨_, _, _, _, _, _, _, _, e1, q1, q2, q3, q4.trow, q5⟩
  rcases cmd_kind hcm with hK | hK | hK
  · subst hK
    obtain ⟨x0, x1, x2, x3, x4, x5⟩ := hB.sv.box.c6
    obtain ⟨y0, y1, y2, y3⟩ := hB.cm.c4
    simp [sv6, cq4] at x0 x1 x2 x3 x4 x5 y0 y1 y2 y3
    go_wp2_with fail
    refine (l8Copy_any p ao n cap F T G po k pcap P eo m ecap L H V so t scap S hn hk hm (by omega) _ (hr.below hB.sv.bel nl) (hp.below hB.sv.bel nl) (he.below hB.sv.bel nl) (hs.below hB.sv.bel nl)).mono ?_
    rintro e w4 ⟨aoN, capN, poN, pcN, eoN, ecN, soN, scN, rfl, cR, cI, cE, cO, hb4⟩
    clear x0 x1 x2 x3 x4 x5 y0 y1 y2 y3
    replace cO := cO.from (base' := w.heap.size) hB.sv.bel.size
    have hob : w.heap.size + 3 ≤ w4.heap.size := Nat.le_trans vR.lt hb4.size
    have hal := (Below.refl w4.heap.size w4).alloc nl (.cells #[.int .i64 p, .slice aoN n capN, .slice poN k pcN, .slice eoN m ecN, .int .i64 V, .slice soN t scN] 33)
    have vO := sv6_new w4 p (.slice aoN n capN) (.slice poN k pcN) (.slice eoN m ecN) V (.slice soN t scN) 33
    replace hB := (hB.next hb4).next hal
    replace vR := (vR.next hb4).next hal
    replace cR := cR.next hal
    replace cI := cI.next hal
    replace cE := cE.next hal
    replace cO := cO.next hal
    clear hb4 hal
    obtain ⟨x0, x1, x2, x3, x4, x5⟩ := hB.sv.box.c6
    obtain ⟨y0, y1, y2, y3⟩ := hB.cm.c4
    simp [sv6, cq4] at x0 x1 x2 x3 x4 x5 y0 y1 y2 y3
    obtain ⟨o0, o1, o2, o3, o4, o5⟩ := vO.c6
    simp [sv6] at o0 o1 o2 o3 o4 o5
    go_wp2_with (with_reducible refine wpList_store_box rfl 33 (.tmp 4) (.tmp 88) rfl rfl (w.heap.size + 1 + 1) [.int .i64 p, .slice aoN n capN, .slice poN k pcN, .slice eoN m ecN, .int .i64 V, .slice soN t scN] (by simp [go_sem]) (by simp [go_sem]) vR (by kernel_rfl) (oneAll (by kernel_rfl)) ?_; intro W9 hv9 hg9)
    have q0 := hv9.cell (j := 0) (by simp)
    have q1 := hv9.cell (j := 1) (by simp)
    have q2 := hv9.cell (j := 2) (by simp)
    have q3 := hv9.cell (j := 3) (by simp)
    have q4 := hv9.cell (j := 4) (by simp)
    have q5 := hv9.cell (j := 5) (by simp)
    simp [lf] at q0 q1 q2 q3 q4 q5
    have hBX := below_row hB.sv.bel hg9 (fun x e => by cases e; omega)
    have hT9 : ∀ x, some (w.heap.size + 1 + 1) = some x → Typed _ x 33 := fun x e => by cases e; exact vR.typed
    exact bodyPost_ret (v := .agg #[.int .i64 p, .slice aoN n capN, .slice poN k pcN, .slice eoN m ecN, .int .i64 V, .slice soN t scN]) (by simp [results, Tryz.results8, go_sem, q0, q1, q2, q3, q4, q5]) rfl (fin _ _ ⟨p, n, G, k, m, V, t, S⟩ (by simp [apD]) (roomB_iff.2 ⟨hrm.1, hrm.2.1, hrm.2.2⟩) rfl (cR.gr hg9 hT9 (by decide)) (cI.gr hg9 hT9 (by decide)) (cE.gr hg9 hT9 (by decide)) (cO.gr hg9 hT9 (by decide)) hBX)
  · subst hK
    by_cases htm : t = 100000
    · subst htm
      obtain ⟨x0, x1, x2, x3, x4, x5⟩ := hB.sv.box.c6
      obtain ⟨y0, y1, y2, y3⟩ := hB.cm.c4
      simp [sv6, cq4] at x0 x1 x2 x3 x4 x5 y0 y1 y2 y3
      go_wp2_with (with_reducible refine wpList_store_box rfl 33 (.tmp 4) (.tmp 27) rfl rfl (w.heap.size + 1 + 1) [.int .i64 0, .slice none 0 0, .slice none 0 0, .slice none 0 0, .int .i64 0, .slice none 0 0] (by simp [go_sem]) (by simp [go_sem]) vR (by kernel_rfl) (oneAll (by kernel_rfl)) ?_; intro W9 hv9 hg9)
      have q0 := hv9.cell (j := 0) (by simp)
      have q1 := hv9.cell (j := 1) (by simp)
      have q2 := hv9.cell (j := 2) (by simp)
      have q3 := hv9.cell (j := 3) (by simp)
      have q4 := hv9.cell (j := 4) (by simp)
      have q5 := hv9.cell (j := 5) (by simp)
      simp [lf] at q0 q1 q2 q3 q4 q5
      have hBX := below_row hB.sv.bel hg9 (fun x e => by cases e; omega)
      have hT9 : ∀ x, some (w.heap.size + 1 + 1) = some x → Typed _ x 33 := fun x e => by cases e; exact vR.typed
      exact bodyPost_ret (v := .agg #[.int .i64 0, .slice none 0 0, .slice none 0 0, .slice none 0 0, .int .i64 0, .slice none 0 0]) (by simp [results, Tryz.results8, go_sem, q0, q1, q2, q3, q4, q5]) rfl (zer _ hBX (apR_no (fun h => by have h3 := (roomB_iff.1 h.2).2.2; cases hres : resOf p n F T G x A B C <;> simp [apD, hres] at h3)))
    have hts : ¬ ((t : Int) = 100000) := by omega
    obtain ⟨x0, x1, x2, x3, x4, x5⟩ := hB.sv.box.c6
    obtain ⟨y0, y1, y2, y3⟩ := hB.cm.c4
    simp [sv6, cq4] at x0 x1 x2 x3 x4 x5 y0 y1 y2 y3
    go_wp2_with fail
    refine (l8Copy_any p ao n cap F T G po k pcap P eo m ecap L H V so t scap S hn hk hm (by omega) _ (hr.below hB.sv.bel nl) (hp.below hB.sv.bel nl) (he.below hB.sv.bel nl) (hs.below hB.sv.bel nl)).mono ?_
    rintro e w4 ⟨aoN, capN, poN, pcN, eoN, ecN, soN, scN, rfl, cR, cI, cE, cO, hb4⟩
    clear x0 x1 x2 x3 x4 x5 y0 y1 y2 y3
    replace cO := cO.from (base' := w.heap.size) hB.sv.bel.size
    have hob : w.heap.size + 3 ≤ w4.heap.size := Nat.le_trans vR.lt hb4.size
    have hal := (Below.refl w4.heap.size w4).alloc nl (.cells #[.int .i64 p, .slice aoN n capN, .slice poN k pcN, .slice eoN m ecN, .int .i64 V, .slice soN t scN] 33)
    have vO := sv6_new w4 p (.slice aoN n capN) (.slice poN k pcN) (.slice eoN m ecN) V (.slice soN t scN) 33
    replace hB := (hB.next hb4).next hal
    replace vR := (vR.next hb4).next hal
    replace cR := cR.next hal
    replace cI := cI.next hal
    replace cE := cE.next hal
    replace cO := cO.next hal
    clear hb4 hal
    obtain ⟨x0, x1, x2, x3, x4, x5⟩ := hB.sv.box.c6
    obtain ⟨y0, y1, y2, y3⟩ := hB.cm.c4
    simp [sv6, cq4] at x0 x1 x2 x3 x4 x5 y0 y1 y2 y3
    obtain ⟨o0, o1, o2, o3, o4, o5⟩ := vO.c6
    simp [sv6] at o0 o1 o2 o3 o4 o5
    go_wp2_with fail
    clear x0 x1 x2 x3 x4 x5 y0 y1 y2 y3 o0 o1 o2 o3 o4 o5
    generalize (w4.alloc (.cells #[.int .i64 p, .slice aoN n capN, .slice poN k pcN, .slice eoN m ecN, .int .i64 V, .slice soN t scN] 33)) = W5 at hB vR vO cR cI cE cO ⊢
    generalize w4.heap.size = ob at vO hob ⊢
    have HRW := fun p' n' H' ok hres W h1 h2 => specReweigh_own p ao n cap F T G xo x xc A B C hn hx W h1 h2 p' n' H' ok hres
    have htl : t ≤ 1000000 := ht
    cases hres : resOf p n F T G x A B C with
    | none =>
      refine (HRW 0 0 G false (.inr ⟨hres, rfl, rfl, rfl⟩) _ (hr.below hB.sv.bel nl) (hc.below hB.sv.bel nl)).mono ?_
      rintro e w5 ⟨ao', cap', rfl, _, hb5⟩
      have hal := below_next hb5 nl ((Below.refl w5.heap.size w5).alloc nl (.cells #[.int .i64 0, .slice ao' 0 cap'] 26))
      have hX : SvX w ob _ 2 xo x xc a b p ao n cap po k pcap eo m ecap V so t scap aoN capN poN pcN eoN ecN V soN scN F T G P L H := SvXs.next ⟨hB, vR, vO, cR, cI, cE⟩ hal
      replace cO := cO.next hal
      clear hal hb5 hB vR vO cR cI cE HRW
      have hal := (Below.refl (w5.alloc (.cells #[.int .i64 0, .slice ao' 0 cap'] 26)).heap.size (w5.alloc (.cells #[.int .i64 0, .slice ao' 0 cap'] 26))).alloc nl (.cells #[.string ⟨#[110, 111]⟩] 9)
      have hX2 := SvXs.next hX hal
      have cO2 := cO.next hal
      have hbz : w.heap.size ≤ ((w5.alloc (.cells #[.int .i64 0, .slice ao' 0 cap'] 26)).alloc (.cells #[.string ⟨#[110, 111]⟩] 9)).heap.size := hX2.b.sv.bel.size
      have o5 := hX.o.cell (j := 5) (by omega)
      simp [sv6] at o5
      go_wp2_with (first | (at_builtin; with_reducible refine wpList_app rfl (.tmp 45) (.tmp 46) Tryz.elS rfl 47 rfl w.heap.size _ soN t scN (by simp [go_sem]) cO2 (some ⟨(w5.alloc (.cells #[.int .i64 0, .slice ao' 0 cap'] 26)).heap.size, 0, none⟩) 1 1 (fun _ => Value.string ⟨#[110, 111]⟩) (by simp [go_sem]) (L1.row (by simp [go_sem])) (fun _ => by decide) (by omega) hbz ?_; intro so' sc' w6 hown hg _; have hTy : ∀ x, (Value.slice soN t scN).ownBlock = some x → Typed _ x 9 := (fun x e => cO2.typed e); have hP := hX2.gr hg hTy (fun x e => (cO2.at e).1); clear o5) | (with_reducible refine wpList_cell rfl 31 (.tmp 48) (.tmp 47) rfl rfl ob 5 (.slice so' (t + 1) sc') (by simp [go_sem]) (by simp [go_sem]) hP.o (by omega) (by kernel_rfl) rfl (oneV (by kernel_rfl)) ?_; intro W7 hW7; have hQ := hP.set hob (so' := so') (t' := t + 1) (sc' := sc'); have hO7 := hown.gr (gr_setCell _ ob 5 (.slice so' (t + 1) sc')) (fun x e => by cases e; exact hP.o.typed) (by decide); rw [← hW7] at hQ hO7; clear hW7; obtain ⟨o0, o1, o2, o3, o4, o5⟩ := hQ.o.c6; simp [sv6] at o0 o1 o2 o3 o4 o5) | (with_reducible refine wpList_store_box rfl 33 (.tmp 4) (.tmp 49) rfl rfl (w.heap.size + 1 + 1) [.int .i64 p, .slice aoN n capN, .slice poN k pcN, .slice eoN m ecN, .int .i64 V, .slice so' (t + 1) sc'] (by simp [go_sem]) (by simp [go_sem]) hQ.r (by kernel_rfl) (oneAll (by kernel_rfl)) ?_; intro W9 hv9 hg9))
      have q0 := hv9.cell (j := 0) (by simp)
      have q1 := hv9.cell (j := 1) (by simp)
      have q2 := hv9.cell (j := 2) (by simp)
      have q3 := hv9.cell (j := 3) (by simp)
      have q4 := hv9.cell (j := 4) (by simp)
      have q5 := hv9.cell (j := 5) (by simp)
      simp [lf] at q0 q1 q2 q3 q4 q5
      have hBX := below_row hQ.b.sv.bel hg9 (fun x e => by cases e; omega)
      have hT9 : ∀ x, some (w.heap.size + 1 + 1) = some x → Typed _ x 33 := fun x e => by cases e; exact hQ.r.typed
      exact bodyPost_ret (v := .agg #[.int .i64 p, .slice aoN n capN, .slice poN k pcN, .slice eoN m ecN, .int .i64 V, .slice so' (t + 1) sc']) (by simp [results, Tryz.results8, go_sem, q0, q1, q2, q3, q4, q5]) rfl (fin _ _ ⟨p, n, G, k, m, V, t + 1, putS S t [110, 111]⟩ (by simp [apD, hres]) (roomB_iff.2 ⟨hrm.1, hrm.2.1, by show t + 1 ≤ 100000; omega⟩) rfl (hQ.cr.gr hg9 hT9 (by decide)) (hQ.ci.gr hg9 hT9 (by decide)) (hQ.ce.gr hg9 hT9 (by decide)) ((hO7.congr (fun j hj => by simp only [putS]; by_cases hjt : j = t; (rw [if_neg (by omega), if_pos hjt]); (rw [if_pos (by omega), if_neg hjt]))).gr hg9 hT9 (by decide)) hBX)
    | some H' =>
      refine (HRW p n H' true (.inl ⟨hres, rfl, rfl, rfl⟩) _ (hr.below hB.sv.bel nl) (hc.below hB.sv.bel nl)).mono ?_
      rintro e w5 ⟨ao', cap', rfl, hO5, hb5⟩
      have hal0 := (Below.refl w5.heap.size w5).alloc nl (.cells #[.int .i64 p, .slice ao' n cap'] 26)
      have hal := below_next hb5 nl hal0
      have hX : SvX w ob _ 2 xo x xc a b p ao n cap po k pcap eo m ecap V so t scap aoN capN poN pcN eoN ecN V soN scN F T G P L H := SvXs.next ⟨hB, vR, vO, cR, cI, cE⟩ hal
      replace cO := cO.next hal
      have cN : TRow (w5.alloc (.cells #[.int .i64 p, .slice ao' n cap'] 26)) 67 ao' (n * 3) (fun j => Value.int .i64 (ar F T H' j)) := TRow.next (w := w5) (fun hm => by
        obtain ⟨b', e', _, hH⟩ := hO5 0 (by omega)
        exact ⟨b', e', hH⟩) hal0
      have g0 : (w5.alloc (.cells #[.int .i64 p, .slice ao' n cap'] 26)).cell? ⟨w5.heap.size, 0, none⟩ = some (.int .i64 p) := by simp [go_sem]
      have g1 : (w5.alloc (.cells #[.int .i64 p, .slice ao' n cap'] 26)).cell? ⟨w5.heap.size, 1, none⟩ = some (.slice ao' n cap') := by simp [go_sem]
      clear hal0 hal hb5 hB vR vO cR cI cE HRW hO5
      have x4 := hX.b.sv.box.cell (j := 4) (by omega)
      simp [sv6] at x4
      by_cases hVm : V = 100000
      · subst hVm
        have vR := hX.r
        have hB := hX.b
        go_wp2_with (with_reducible refine wpList_store_box rfl 33 (.tmp 4) (.tmp 53) rfl rfl (w.heap.size + 1 + 1) [.int .i64 0, .slice none 0 0, .slice none 0 0, .slice none 0 0, .int .i64 0, .slice none 0 0] (by simp [go_sem]) (by simp [go_sem]) vR (by kernel_rfl) (oneAll (by kernel_rfl)) ?_; intro W9 hv9 hg9)
        have q0 := hv9.cell (j := 0) (by simp)
        have q1 := hv9.cell (j := 1) (by simp)
        have q2 := hv9.cell (j := 2) (by simp)
        have q3 := hv9.cell (j := 3) (by simp)
        have q4 := hv9.cell (j := 4) (by simp)
        have q5 := hv9.cell (j := 5) (by simp)
        simp [lf] at q0 q1 q2 q3 q4 q5
        have hBX := below_row hB.sv.bel hg9 (fun x e => by cases e; omega)
        have hT9 : ∀ x, some (w.heap.size + 1 + 1) = some x → Typed _ x 33 := fun x e => by cases e; exact vR.typed
        exact bodyPost_ret (v := .agg #[.int .i64 0, .slice none 0 0, .slice none 0 0, .slice none 0 0, .int .i64 0, .slice none 0 0]) (by simp [results, Tryz.results8, go_sem, q0, q1, q2, q3, q4, q5]) rfl (zer _ hBX (apR_no (fun h => by have h3 := (roomB_iff.1 h.2).2.1; simp [apD, hres] at h3)))
      have hwV : IntKind.i64.wrap (V + 1) = V + 1 := by rw [IntKind.wrap_i64]; omega
      go_wp2_with (first | (with_reducible refine wpList_store_part rfl 26 (.tmp 55) (.tmp 54) rfl rfl ob [.int .i64 p, .slice ao' n cap'] (by simp [go_sem]) (by simp [go_sem]) hX.o (by simp) (by kernel_rfl) (oneAll (by kernel_rfl)) ?_; intro W6 hv6 hg6; have hX6 := hX.part hob hg6 hv6 (cN.gr hg6 (fun x e => by cases e; exact hX.o.typed) (by decide)); have cO6 := cO.gr hg6 (fun x e => by cases e; exact hX.o.typed) (by decide); clear g0 g1 x4 hv6 hg6; have x4 := hX6.b.sv.box.cell (j := 4) (by omega); simp [sv6] at x4) | (with_reducible refine wpList_cell rfl 2 (.tmp 59) (.tmp 58) rfl rfl ob 4 (.int .i64 (V + 1)) (by simp [go_sem]) (by simp [go_sem, hwV]) hX6.o (by omega) (by kernel_rfl) rfl (oneV (by kernel_rfl)) ?_; intro W8 hW8; have hX8 := hX6.ver hob (V' := V + 1); have cO8 := cO6.gr (gr_setCell _ ob 4 (.int .i64 (V + 1))) (fun x e => by cases e; exact hX6.o.typed) (by decide); rw [← hW8] at hX8 cO8; clear hW8 x4))
      have hl := dig_len (V + 1).toNat
      have hlen3 : ¬ 9223372036854775807 < 3 + (Lib.decDigits (V + 1).toNat).length := by omega
      have hd : RB W8 W8.drew := (Below.refl _ _).drew
      have hX : SvX w ob W8.drew 2 xo x xc a b p ao n cap po k pcap eo m ecap V so t scap ao' cap' poN pcN eoN ecN (V + 1) soN scN F T H' P L H := hX8.next hd
      have cO' := cO8.next hd
      have hb0 : w.heap.size ≤ W8.drew.heap.size := hX.b.sv.bel.size
      refine region_mid (by kernel_rfl) (by kernel_rfl) (by kernel_rfl) 7 [0, 1, 2, 3, 4, 5, 6] [8] (by kernel_rfl) (by kernel_rfl) (fun _ _ => True)
        (fun W' => SvX w ob W' 2 xo x xc a b p ao n cap po k pcap eo m ecap V so t scap ao' cap' poN pcN eoN ecN (V + 1) soN scN F T H' P L H) (fun _ _ h hb => h.next hb)
        [fun v _ => v = .pointer (some ⟨ob, 5, none⟩), fun v _ => v = .slice soN t scN, fun v _ => v = .pointer (some ⟨ob, 4, none⟩), fun v _ => v = .int .i64 (V + 1), fun v _ => v = txt (Lib.decDigits (V + 1).toNat), fun v _ => v = txt (okTx (V + 1)), L1 (txt (okTx (V + 1))), fun v W' => ∃ so' sc', v = .slice so' (t + 1) sc' ∧ GOwn W' w.heap.size 9 1 so' (t + 1) sc' (fun j => Value.string (putS S t (okTx (V + 1)) j)), fun v _ => v = .pointer (some ⟨ob, 5, none⟩)]
        ⟨fun _ _ _ h _ => h, fun _ _ _ h _ => h, fun _ _ _ h _ => h, fun _ _ _ h _ => h, fun _ _ _ h _ => h, fun _ _ _ h _ => h, L1.rb, fun _ _ _ h hb => by obtain ⟨so', sc', e, h⟩ := h; exact ⟨so', sc', e, h.next hb⟩, fun _ _ _ h _ => h, trivial⟩ rfl ?_ ?_ ?_ ?_ _ rfl rfl rfl
        (fun v W' => ∃ so' sc', SvXs w ob W' 2 xo x xc a b p ao n cap po k pcap eo m ecap V so t scap ao' cap' poN pcN eoN ecN (V + 1) so' (t + 1) sc' F T H' P L H ∧ GOwn W' w.heap.size 9 1 so' (t + 1) sc' (fun j => Value.string (putS S t (okTx (V + 1)) j))) ?_ ?_
      · intro i hi v w1 w2 h _
        simp at hi
        subst hi
        exact h
      · intro i hi o ho
        have hc : i = 0 ∨ i = 1 ∨ i = 2 ∨ i = 3 ∨ i = 4 ∨ i = 5 ∨ i = 6 := by simpa using hi
        rcases hc with rfl | rfl | rfl | rfl | rfl | rfl | rfl <;> (simp at ho; subst ho)
        · exact OpOk.get RB.refl _ (fun _ => rfl) fun ev w' v hR E pr => by simp [go_sem, E.was 5 _]
        · exact OpOk.get RB.refl _ (fun _ => rfl) fun ev w' v hR E pr => by
            have e1 : ev (.tmp 60) = _ := E.get pr 0 60
            have c5 := (hX.o.next hR).cell (j := 5) (by omega)
            simp [sv6] at c5
            simp [go_sem, e1, c5]
        · exact OpOk.get RB.refl _ (fun _ => rfl) fun ev w' v hR E pr => by simp [go_sem, E.was 5 _]
        · exact OpOk.get RB.refl _ (fun _ => rfl) fun ev w' v hR E pr => by
            have e1 : ev (.tmp 62) = _ := E.get pr 2 62
            have c4 := (hX.o.next hR).cell (j := 4) (by omega)
            simp [sv6] at c4
            simp [go_sem, e1, c4]
        · refine OpOk.call rfl fun ev w' v hR E pr => ?_
          have e1 : ev (.tmp 63) = _ := E.get pr 3 63
          refine ⟨30, #[.int .i64 (V + 1)], by simp [go_sem, e1, E.fn], (l1Int_v (V + 1) (by omega) (by omega) _).mono ?_⟩
          rintro e w2 ⟨rfl, hb⟩
          exact ⟨_, rfl, hb, rfl⟩
        · exact OpOk.get RB.refl _ (fun _ => rfl) fun ev w' v hR E pr => by
            have e2 : ev (.tmp 64) = _ := E.get pr 4 64
            simp [go_sem, e2, E.con, hlen3, ba_app, okTx]
        · refine OpOk.val rfl fun ev w' v hR E pr => ?_
          have e1 : ev (.tmp 65) = _ := E.get pr 5 65
          exact ⟨_, w'.alloc (.cells #[txt (okTx (V + 1))] 9), by simp [go_sem, e1], RB.alloc _ _, L1.new _ _ _⟩
      · intro i h1 h2 h3 o ho
        have hc : i = 8 := by
          simp at h1 h3
          omega
        subst hc
        simp at ho
        subst ho
        exact fun ev w' v hR E pr => ⟨.pointer (some ⟨ob, 5, none⟩), w', by simp [go_sem, E.was 5 _], RB.refl _, rfl⟩
      · intro o ho
        simp at ho
        subst ho
        refine MidOk.val fun ev w' v hR E pr => ?_
        have e1 : ev (.tmp 61) = .slice soN t scN := E.get pr 1 61
        obtain ⟨B', e2, hB'⟩ : L1 (txt (okTx (V + 1))) (ev (.tmp 66)) w' := E.get pr 6 66
        obtain ⟨so', sc', w2, hrun, hown, hg, _⟩ := run_app Tryz.elS w' _ w.heap.size _ soN t scN (cO'.next hR) _ 1 1 _ (L1.row hB') (fun _ => rfl) (by omega) (Nat.le_trans hb0 hR.size)
        have hTy : ∀ x, (Value.slice soN t scN).ownBlock = some x → Typed w' x 9 := fun x e => (cO'.next hR).typed e
        exact ⟨_, w2, exec_append rfl e1 e2 hrun, trivial, (hX.next hR).gr hg hTy (fun x e => ((cO'.next hR).at e).1), so', sc', rfl, hown.congr (fun j hj => by
          simp only [putS]
          by_cases hjt : j = t
          · rw [if_neg (by omega), if_pos hjt]
          · rw [if_pos (by omega), if_neg hjt])⟩
      · intro ev w' v hP E hk
        obtain ⟨so', sc', e1, hown⟩ := hk 7 (by simp)
        have e2 : v 8 = .pointer (some ⟨ob, 5, none⟩) := hk 8 (by simp)
        have E1 := E.at_ 7 67 rfl (by kernel_rfl) (Nat.le_of_ble_eq_true (by kernel_rfl))
        have E2 := E.at_ 8 68 rfl (by kernel_rfl) (Nat.le_of_ble_eq_true (by kernel_rfl))
        rw [e1] at E1
        rw [e2] at E2
        exact ⟨_, exec_cell rfl E2 E1 hP.o (by omega) (by kernel_rfl) rfl rfl, fun _ _ => ⟨so', sc', hP.set hob, hown.gr (gr_setCell _ _ _ _) (fun x e => by cases e; exact hP.o.typed) (by decide)⟩⟩
      · rintro v W10 ⟨so', sc', hP, hown⟩
        simp only [putL, Act.put, List.setIfInBounds_toArray, List.set_cons_zero, List.set_cons_succ]
        obtain ⟨o0, o1, o2, o3, o4, o5⟩ := hP.o.c6
        simp [sv6] at o0 o1 o2 o3 o4 o5
        have vR := hP.r
        have hB := hP.b
        go_wp2_with (with_reducible refine wpList_store_box rfl 33 (.tmp 4) (.tmp 88) rfl rfl (w.heap.size + 1 + 1) [.int .i64 p, .slice ao' n cap', .slice poN k pcN, .slice eoN m ecN, .int .i64 (V + 1), .slice so' (t + 1) sc'] (by simp [go_sem]) (by simp [go_sem]) vR (by kernel_rfl) (oneAll (by kernel_rfl)) ?_; intro W9 hv9 hg9)
        have q0 := hv9.cell (j := 0) (by simp)
        have q1 := hv9.cell (j := 1) (by simp)
        have q2 := hv9.cell (j := 2) (by simp)
        have q3 := hv9.cell (j := 3) (by simp)
        have q4 := hv9.cell (j := 4) (by simp)
        have q5 := hv9.cell (j := 5) (by simp)
        simp [lf] at q0 q1 q2 q3 q4 q5
        have hBX := below_row hB.sv.bel hg9 (fun x e => by cases e; omega)
        have hT9 : ∀ x, some (w.heap.size + 1 + 1) = some x → Typed _ x 33 := fun x e => by cases e; exact vR.typed
        exact bodyPost_ret (v := .agg #[.int .i64 p, .slice ao' n cap', .slice poN k pcN, .slice eoN m ecN, .int .i64 (V + 1), .slice so' (t + 1) sc']) (by simp [results, Tryz.results8, go_sem, q0, q1, q2, q3, q4, q5]) rfl (fin _ _ ⟨p, n, H', k, m, V + 1, t + 1, putS S t (okTx (V + 1))⟩ (by simp [apD, hres]) (roomB_iff.2 ⟨by show 0 ≤ V + 1; omega, by show V + 1 ≤ 100000; omega, by show t + 1 ≤ 100000; omega⟩) rfl (hP.cr.gr hg9 hT9 (by decide)) (hP.ci.gr hg9 hT9 (by decide)) (hP.ce.gr hg9 hT9 (by decide)) (hown.gr hg9 hT9 (by decide)) hBX)
  · subst hK
    by_cases htm : t = 100000
    · subst htm
      obtain ⟨x0, x1, x2, x3, x4, x5⟩ := hB.sv.box.c6
      obtain ⟨y0, y1, y2, y3⟩ := hB.cm.c4
      simp [sv6, cq4] at x0 x1 x2 x3 x4 x5 y0 y1 y2 y3
      go_wp2_with (with_reducible refine wpList_store_box rfl 33 (.tmp 4) (.tmp 27) rfl rfl (w.heap.size + 1 + 1) [.int .i64 0, .slice none 0 0, .slice none 0 0, .slice none 0 0, .int .i64 0, .slice none 0 0] (by simp [go_sem]) (by simp [go_sem]) vR (by kernel_rfl) (oneAll (by kernel_rfl)) ?_; intro W9 hv9 hg9)
      have q0 := hv9.cell (j := 0) (by simp)
      have q1 := hv9.cell (j := 1) (by simp)
      have q2 := hv9.cell (j := 2) (by simp)
      have q3 := hv9.cell (j := 3) (by simp)
      have q4 := hv9.cell (j := 4) (by simp)
      have q5 := hv9.cell (j := 5) (by simp)
      simp [lf] at q0 q1 q2 q3 q4 q5
      have hBX := below_row hB.sv.bel hg9 (fun x e => by cases e; omega)
      have hT9 : ∀ x, some (w.heap.size + 1 + 1) = some x → Typed _ x 33 := fun x e => by cases e; exact vR.typed
      exact bodyPost_ret (v := .agg #[.int .i64 0, .slice none 0 0, .slice none 0 0, .slice none 0 0, .int .i64 0, .slice none 0 0]) (by simp [results, Tryz.results8, go_sem, q0, q1, q2, q3, q4, q5]) rfl (zer _ hBX (apR_no (fun h => by have h3 := (roomB_iff.1 h.2).2.2; simp [apD] at h3)))
    have hts : ¬ ((t : Int) = 100000) := by omega
    obtain ⟨x0, x1, x2, x3, x4, x5⟩ := hB.sv.box.c6
    obtain ⟨y0, y1, y2, y3⟩ := hB.cm.c4
    simp [sv6, cq4] at x0 x1 x2 x3 x4 x5 y0 y1 y2 y3
    go_wp2_with fail
    refine (l8Copy_any p ao n cap F T G po k pcap P eo m ecap L H V so t scap S hn hk hm (by omega) _ (hr.below hB.sv.bel nl) (hp.below hB.sv.bel nl) (he.below hB.sv.bel nl) (hs.below hB.sv.bel nl)).mono ?_
    rintro e w4 ⟨aoN, capN, poN, pcN, eoN, ecN, soN, scN, rfl, cR, cI, cE, cO, hb4⟩
    clear x0 x1 x2 x3 x4 x5 y0 y1 y2 y3
    replace cO := cO.from (base' := w.heap.size) hB.sv.bel.size
    have hob : w.heap.size + 3 ≤ w4.heap.size := Nat.le_trans vR.lt hb4.size
    have hal := (Below.refl w4.heap.size w4).alloc nl (.cells #[.int .i64 p, .slice aoN n capN, .slice poN k pcN, .slice eoN m ecN, .int .i64 V, .slice soN t scN] 33)
    have vO := sv6_new w4 p (.slice aoN n capN) (.slice poN k pcN) (.slice eoN m ecN) V (.slice soN t scN) 33
    replace hB := (hB.next hb4).next hal
    replace vR := (vR.next hb4).next hal
    replace cR := cR.next hal
    replace cI := cI.next hal
    replace cE := cE.next hal
    replace cO := cO.next hal
    clear hb4 hal
    obtain ⟨x0, x1, x2, x3, x4, x5⟩ := hB.sv.box.c6
    obtain ⟨y0, y1, y2, y3⟩ := hB.cm.c4
    simp [sv6, cq4] at x0 x1 x2 x3 x4 x5 y0 y1 y2 y3
    obtain ⟨o0, o1, o2, o3, o4, o5⟩ := vO.c6
    simp [sv6] at o0 o1 o2 o3 o4 o5
    go_wp2_with fail
    clear x0 x1 x2 x3 x4 x5 y0 y1 y2 y3 o0 o1 o2 o3 o4 o5
    generalize (w4.alloc (.cells #[.int .i64 p, .slice aoN n capN, .slice poN k pcN, .slice eoN m ecN, .int .i64 V, .slice soN t scN] 33)) = W5 at hB vR vO cR cI cE cO ⊢
    generalize w4.heap.size = ob at vO hob ⊢
    have hl := dig_len V.toNat
    have hlen3 : ¬ 9223372036854775807 < (Lib.decDigits V.toNat).length + 1 := by omega
    have hdl : (dT (lenD p n F T G a) (listD p n F T G a) b).length ≤ 1000000000003 := by
      unfold dT
      split
      · next hq =>
        have h1 := hq.1
        simp [inB] at h1
        have h2 := listD_in (p := p) (n := n) (F := F) (T := T) (G := G) (s := a) (v := b.toNat) (by omega)
        have := dig_len (listD p n F T G a b.toNat).toNat
        omega
      · simp
    have hlen4 : ¬ 9223372036854775807 < (Lib.decDigits V.toNat).length + 1 + (dT (lenD p n F T G a) (listD p n F T G a) b).length := by omega
    have hlen5 : ¬ 9223372036854775807 < (Lib.decDigits V.toNat).length + ((dT (lenD p n F T G a) (listD p n F T G a) b).length + 1) := by omega
    have hd : RB W5 W5.drew := (Below.refl _ _).drew
    have hX : SvX w ob W5.drew 3 xo x xc a b p ao n cap po k pcap eo m ecap V so t scap aoN capN poN pcN eoN ecN V soN scN F T G P L H := ⟨hB.next hd, vR.next hd, vO.next hd, cR.next hd, cI.next hd, cE.next hd⟩
    have cO' := cO.next hd
    have hb0 : w.heap.size ≤ W5.drew.heap.size := hX.b.sv.bel.size
    refine region_mid (by kernel_rfl) (by kernel_rfl) (by kernel_rfl) 15 [0, 1, 2, 3, 4, 5, 6, 7, 8, 9, 10, 11, 12, 13, 14] [16] (by kernel_rfl) (by kernel_rfl) (fun _ _ => True)
      (fun W' => SvX w ob W' 3 xo x xc a b p ao n cap po k pcap eo m ecap V so t scap aoN capN poN pcN eoN ecN V soN scN F T G P L H) (fun _ _ h hb => h.next hb)
      [fun v _ => v = .pointer (some ⟨ob, 5, none⟩), fun v _ => v = .slice soN t scN, fun v _ => v = .pointer (some ⟨w.heap.size, 4, none⟩), fun v _ => v = .int .i64 V, fun v _ => v = txt (Lib.decDigits V.toNat), fun v _ => v = txt (Lib.decDigits V.toNat ++ [32]), fun v _ => v = .pointer (some ⟨w.heap.size, 0, none⟩), fun v _ => v = .agg #[.int .i64 p, .slice ao n cap], fun v _ => v = .pointer (some ⟨(w.heap.size + 1), 2, none⟩), fun v _ => v = .int .i64 a, fun v _ => v = .pointer (some ⟨(w.heap.size + 1), 3, none⟩), fun v _ => v = .int .i64 b, fun v _ => v = txt (dT (lenD p n F T G a) (listD p n F T G a) b), fun v _ => v = txt (askTx p n F T G V a b), L1 (txt (askTx p n F T G V a b)), fun v W' => ∃ so' sc', v = .slice so' (t + 1) sc' ∧ GOwn W' w.heap.size 9 1 so' (t + 1) sc' (fun j => Value.string (putS S t (askTx p n F T G V a b) j)), fun v _ => v = .pointer (some ⟨ob, 5, none⟩)]
      ⟨fun _ _ _ h _ => h, fun _ _ _ h _ => h, fun _ _ _ h _ => h, fun _ _ _ h _ => h, fun _ _ _ h _ => h, fun _ _ _ h _ => h, fun _ _ _ h _ => h, fun _ _ _ h _ => h, fun _ _ _ h _ => h, fun _ _ _ h _ => h, fun _ _ _ h _ => h, fun _ _ _ h _ => h, fun _ _ _ h _ => h, fun _ _ _ h _ => h, L1.rb, fun _ _ _ h hb => by obtain ⟨so', sc', e, h⟩ := h; exact ⟨so', sc', e, h.next hb⟩, fun _ _ _ h _ => h, trivial⟩ rfl ?_ ?_ ?_ ?_ _ rfl rfl rfl
      (fun v W' => ∃ so' sc', SvXs w ob W' 3 xo x xc a b p ao n cap po k pcap eo m ecap V so t scap aoN capN poN pcN eoN ecN V so' (t + 1) sc' F T G P L H ∧ GOwn W' w.heap.size 9 1 so' (t + 1) sc' (fun j => Value.string (putS S t (askTx p n F T G V a b) j))) ?_ ?_
    · intro i hi v w1 w2 h _
      simp at hi
      subst hi
      exact h
    · intro i hi o ho
      have hc : i = 0 ∨ i = 1 ∨ i = 2 ∨ i = 3 ∨ i = 4 ∨ i = 5 ∨ i = 6 ∨ i = 7 ∨ i = 8 ∨ i = 9 ∨ i = 10 ∨ i = 11 ∨ i = 12 ∨ i = 13 ∨ i = 14 := by simpa using hi
      rcases hc with rfl | rfl | rfl | rfl | rfl | rfl | rfl | rfl | rfl | rfl | rfl | rfl | rfl | rfl | rfl <;> (simp at ho; subst ho)
      · exact OpOk.get RB.refl _ (fun _ => rfl) fun ev w' v hR E pr => by simp [go_sem, E.was 5 _]
      · exact OpOk.get RB.refl _ (fun _ => rfl) fun ev w' v hR E pr => by
          have e1 : ev (.tmp 71) = _ := E.get pr 0 71
          have c5 := (hX.o.next hR).cell (j := 5) (by omega)
          simp [sv6] at c5
          simp [go_sem, e1, c5]
      · exact OpOk.get RB.refl _ (fun _ => rfl) fun ev w' v hR E pr => by simp [go_sem, E.was 2 _]
      · exact OpOk.get RB.refl _ (fun _ => rfl) fun ev w' v hR E pr => by
          have e1 : ev (.tmp 73) = _ := E.get pr 2 73
          have c4 := (hX.b.sv.box.next hR).cell (j := 4) (by omega)
          simp [sv6] at c4
          simp [go_sem, e1, c4]
      · refine OpOk.call rfl fun ev w' v hR E pr => ?_
        have e1 : ev (.tmp 74) = _ := E.get pr 3 74
        refine ⟨30, #[.int .i64 V], by simp [go_sem, e1, E.fn], (l1Int_v V hrm.1 (by omega) _).mono ?_⟩
        rintro e w2 ⟨rfl, hb⟩
        exact ⟨_, rfl, hb, rfl⟩
      · exact OpOk.get RB.refl _ (fun _ => rfl) fun ev w' v hR E pr => by
          have e1 : ev (.tmp 75) = _ := E.get pr 4 75
          simp [go_sem, e1, E.con, hlen3, ba_app]
      · exact OpOk.get RB.refl _ (fun _ => rfl) fun ev w' v hR E pr => by simp [go_sem, E.was 2 _]
      · exact OpOk.get RB.refl _ (fun _ => rfl) fun ev w' v hR E pr => by
          have e1 : ev (.tmp 77) = _ := E.get pr 6 77
          have c0 := (hX.b.sv.box.next hR).cell (j := 0) (by omega)
          have c1 := (hX.b.sv.box.next hR).cell (j := 1) (by omega)
          simp [sv6] at c0 c1
          simp [go_sem, e1, c0, c1]
      · exact OpOk.get RB.refl _ (fun _ => rfl) fun ev w' v hR E pr => by simp [go_sem, E.was 3 _]
      · exact OpOk.get RB.refl _ (fun _ => rfl) fun ev w' v hR E pr => by
          have e1 : ev (.tmp 79) = _ := E.get pr 8 79
          have c2 := (hX.b.cm.next hR).cell (j := 2) (by omega)
          simp [cq4] at c2
          simp [go_sem, e1, c2]
      · exact OpOk.get RB.refl _ (fun _ => rfl) fun ev w' v hR E pr => by simp [go_sem, E.was 3 _]
      · exact OpOk.get RB.refl _ (fun _ => rfl) fun ev w' v hR E pr => by
          have e1 : ev (.tmp 81) = _ := E.get pr 10 81
          have c3 := (hX.b.cm.next hR).cell (j := 3) (by omega)
          simp [cq4] at c3
          simp [go_sem, e1, c3]
      · refine OpOk.call rfl fun ev w' v hR E pr => ?_
        have e1 : ev (.tmp 78) = _ := E.get pr 7 78
        have e2 : ev (.tmp 80) = _ := E.get pr 9 80
        have e3 : ev (.tmp 82) = _ := E.get pr 11 82
        refine ⟨15, #[.agg #[.int .i64 p, .slice ao n cap], .int .i64 a, .int .i64 b], by simp [go_sem, e1, e2, e3, E.fn], (specAnswer_any p ao n cap F T G a b hn _ (hr.below ((hX.next hR).b.sv.bel) nl)).mono ?_⟩
        rintro e w2 ⟨rfl, hb⟩
        exact ⟨_, rfl, hb, rfl⟩
      · exact OpOk.get RB.refl _ (fun _ => rfl) fun ev w' v hR E pr => by
          have e1 : ev (.tmp 76) = _ := E.get pr 5 76
          have e2 : ev (.tmp 83) = _ := E.get pr 12 83
          simp [go_sem, e1, e2, E.con, hlen4, hlen5, ba_app, askTx]
      · refine OpOk.val rfl fun ev w' v hR E pr => ?_
        have e1 : ev (.tmp 84) = _ := E.get pr 13 84
        exact ⟨_, w'.alloc (.cells #[txt (askTx p n F T G V a b)] 9), by simp [go_sem, e1], RB.alloc _ _, L1.new _ _ _⟩
    · intro i h1 h2 h3 o ho
      have hc : i = 16 := by
        simp at h1 h3
        omega
      subst hc
      simp at ho
      subst ho
      exact fun ev w' v hR E pr => ⟨.pointer (some ⟨ob, 5, none⟩), w', by simp [go_sem, E.was 5 _], RB.refl _, rfl⟩
    · intro o ho
      simp at ho
      subst ho
      refine MidOk.val fun ev w' v hR E pr => ?_
      have e1 : ev (.tmp 72) = .slice soN t scN := E.get pr 1 72
      obtain ⟨B', e2, hB'⟩ : L1 (txt (askTx p n F T G V a b)) (ev (.tmp 85)) w' := E.get pr 14 85
      obtain ⟨so', sc', w2, hrun, hown, hg, _⟩ := run_app Tryz.elS w' _ w.heap.size _ soN t scN (cO'.next hR) _ 1 1 _ (L1.row hB') (fun _ => rfl) (by omega) (Nat.le_trans hb0 hR.size)
      have hTy : ∀ x, (Value.slice soN t scN).ownBlock = some x → Typed w' x 9 := fun x e => (cO'.next hR).typed e
      exact ⟨_, w2, exec_append rfl e1 e2 hrun, trivial, (hX.next hR).gr hg hTy (fun x e => ((cO'.next hR).at e).1), so', sc', rfl, hown.congr (fun j hj => by
        simp only [putS]
        by_cases hjt : j = t
        · rw [if_neg (by omega), if_pos hjt]
        · rw [if_pos (by omega), if_neg hjt])⟩
    · intro ev w' v hP E hk
      obtain ⟨so', sc', e1, hown⟩ := hk 15 (by simp)
      have e2 : v 16 = .pointer (some ⟨ob, 5, none⟩) := hk 16 (by simp)
      have E1 := E.at_ 15 86 rfl (by kernel_rfl) (Nat.le_of_ble_eq_true (by kernel_rfl))
      have E2 := E.at_ 16 87 rfl (by kernel_rfl) (Nat.le_of_ble_eq_true (by kernel_rfl))
      rw [e1] at E1
      rw [e2] at E2
      exact ⟨_, exec_cell rfl E2 E1 hP.o (by omega) (by kernel_rfl) rfl rfl, fun _ _ => ⟨so', sc', hP.set hob, hown.gr (gr_setCell _ _ _ _) (fun x e => by cases e; exact hP.o.typed) (by decide)⟩⟩
    · rintro v W8 ⟨so', sc', hP, hown⟩
      simp only [putL, Act.put, List.setIfInBounds_toArray, List.set_cons_zero, List.set_cons_succ]
      obtain ⟨o0, o1, o2, o3, o4, o5⟩ := hP.o.c6
      simp [sv6] at o0 o1 o2 o3 o4 o5
      have vR := hP.r
      have hB := hP.b
      go_wp2_with (with_reducible refine wpList_store_box rfl 33 (.tmp 4) (.tmp 88) rfl rfl (w.heap.size + 1 + 1) [.int .i64 p, .slice aoN n capN, .slice poN k pcN, .slice eoN m ecN, .int .i64 V, .slice so' (t + 1) sc'] (by simp [go_sem]) (by simp [go_sem]) vR (by kernel_rfl) (oneAll (by kernel_rfl)) ?_; intro W9 hv9 hg9)
      have q0 := hv9.cell (j := 0) (by simp)
      have q1 := hv9.cell (j := 1) (by simp)
      have q2 := hv9.cell (j := 2) (by simp)
      have q3 := hv9.cell (j := 3) (by simp)
      have q4 := hv9.cell (j := 4) (by simp)
      have q5 := hv9.cell (j := 5) (by simp)
      simp [lf] at q0 q1 q2 q3 q4 q5
      have hBX := below_row hB.sv.bel hg9 (fun x e => by cases e; omega)
      have hT9 : ∀ x, some (w.heap.size + 1 + 1) = some x → Typed _ x 33 := fun x e => by cases e; exact vR.typed
      exact bodyPost_ret (v := .agg #[.int .i64 p, .slice aoN n capN, .slice poN k pcN, .slice eoN m ecN, .int .i64 V, .slice so' (t + 1) sc']) (by simp [results, Tryz.results8, go_sem, q0, q1, q2, q3, q4, q5]) rfl (fin _ _ ⟨p, n, G, k, m, V, t + 1, putS S t (askTx p n F T G V a b)⟩ (by simp [apD]) (roomB_iff.2 ⟨hrm.1, hrm.2.1, by show t + 1 ≤ 100000; omega⟩) rfl (hP.cr.gr hg9 hT9 (by decide)) (hP.ci.gr hg9 hT9 (by decide)) (hP.ce.gr hg9 hT9 (by decide)) (hown.gr hg9 hT9 (by decide)) hBX)
end
end Go.Proofs.YthmpliljffmmcaaGreatDoor
