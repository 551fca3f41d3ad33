/-
  Helpers: ApN, CmdH.
-/
import Derived.Test.YthmpliljffmmcaaGreatDoorPack1
import Derived.Test.YthmpliljffmmcaaGreatDoorPack24
import Derived.Test.YthmpliljffmmcaaGreatDoorPack28
import Derived.Stop.Asserts
import Derived.Deep.RegionHeld3
import Derived.Deep.RegionLaw
import Derived.Test.YthmpliljffmmcaaGreatDoorPack14
import Derived.Test.YthmpliljffmmcaaGreatDoorPack5
import Derived.Deep.DrawnRows
import Derived.Deep.RegionWith
import Derived.BigQuiet
import Derived.Deep.QuietTactic
set_option linter.unusedVariables false
set_option linter.unusedSimpArgs false
namespace Go.Proofs.YthmpliljffmmcaaGreatDoor
section
open Go.RowKit Go.Maps Go.Deep Go.Joins
attribute [local go_sem ↓] Go.wp_at_zero Go.wp_at_succ
theorem Tryz.asP (v : Value) (x : TypeId) (w : World) : (Instr.typeAssert (.iface 81 v) x 88 true).run Tryz.prog w = .ok (.tuple #[.nilIface, .bool false]) w := run_typeAssert_lacksB Tryz.underlying88 (by kernel_rfl) (by kernel_rfl) v x w
theorem Tryz.asW (v : Value) (x : TypeId) (w : World) : (Instr.typeAssert (.iface 83 v) x 88 true).run Tryz.prog w = .ok (.tuple #[.iface 83 v, .bool true]) w := run_typeAssert_hasB Tryz.underlying88 (by kernel_rfl) v x w
theorem Tryz.asQ (v : Value) (x : TypeId) (w : World) : (Instr.typeAssert (.iface 86 v) x 88 true).run Tryz.prog w = .ok (.tuple #[.iface 86 v, .bool true]) w := run_typeAssert_hasB Tryz.underlying88 (by kernel_rfl) v x w
theorem wAns_at (v : Value) (w : World) : Sem.run Tryz.prog (method 308 83 v "loop.example/g00161/impl.answer") w = .ok (130, v) w := by kernel_rfl
theorem wAns_enters (args : Array Value) (w : World) : Sem.run Tryz.prog (callFunc 130 args) w = .ok (.enter 130 args) w := by kernel_rfl
theorem qAns_at (v : Value) (w : World) : Sem.run Tryz.prog (method 308 86 v "loop.example/g00161/impl.answer") w = .ok (134, v) w := by kernel_rfl
theorem qAns_enters (args : Array Value) (w : World) : Sem.run Tryz.prog (callFunc 134 args) w = .ok (.enter 134 args) w := by kernel_rfl
theorem step_append_str {ops : Array Oper} {o : Oper} {a : Act} {w : World} {K : Act → World → Prop} {Q : Exit → Act → World → Prop} {E : Prop} (hgd : o.guard = none) (s x : Operand)
    (ho : o.op = .call { callee := .builtin .append, args := #[s, x], argTypes := #[31, 31] }) (base k gc : Nat) (go : Option Addr) (S : Nat → ByteArray) (y : ByteArray) (hs : a.eval s = .slice go k gc) (hown : GOwn w base 9 1 go k gc (fun j => Value.string (S j))) (B : Nat) (hx : a.eval x = .slice (some ⟨B, 0, none⟩) 1 1)
    (hB : w.cell? ⟨B, 0, none⟩ = some (.string y)) (hk : k ≤ 100000000) (hbase : base ≤ w.heap.size)
    (h : ∀ g' gc' w', GOwn w' base 9 1 (some ⟨g', 0, none⟩) (k + 1) gc' (fun j => Value.string (if j = k then y else S j)) → w.grownBy w' (Value.slice go k gc).ownBlock → ((Value.slice go k gc).ownBlock = some g' ∨ g' = w.heap.size) → K (a.put o.dst (.slice (some ⟨g', 0, none⟩) (k + 1) gc')) w') :
    if Region.wanted o (yielded ops a.tmps) = true then Oper.wp Tryz.prog o a w K Q else E := by
  have hw : Region.wanted o (yielded ops a.tmps) = true := by simp [Region.wanted, hgd]
  rw [if_pos hw]
  obtain ⟨i0, hi0, hz0, hz1, hz2⟩ := info_parts Tryz.info9S
  refine wp_append_lies w s x 31 ho base 9 i0 _ 1 16 Tryz.underlying31 hi0 hz0 hz1 hz2 rfl (by omega) _ k (gCells (fun j => Value.string (S j)) (k * 1)) hs hown ⟨B, 0, none⟩ 1 1 [.string y] hx rfl ?_ ?_ (by omega) (by unfold maxLen; omega) (by omega) hbase w.heap.size rfl ?_
  · intro j u hu
    match j, hu with
    | 0, hu => simp at hu; subst hu; exact hB
    | j + 1, hu => simp at hu
  · intro u hu
    simp at hu
    subst hu; rfl
  · intro g' gc' w' hown' hgrow hat _
    refine h g' gc' w' ?_ hgrow hat
    unfold GOwn
    have e : gCells (fun j => Value.string (S j)) (k * 1) ++ [Value.string y] = gCells (fun j => Value.string (if j = k then y else S j)) ((k + 1) * 1) := by
      have := gCells_app (f := fun j => Value.string (S j)) (g := fun _ => Value.string y) (h := fun j => Value.string (if j = k then y else S j)) (a := k * 1) (b := 1) (fun j hj => by simp; omega) (fun j hj => by
        have : j = 0 := by omega
        subst this
        simp)
      have e2 : (k + 1) * 1 = k * 1 + 1 := by omega
      rw [e2]
      exact this
    rw [e] at hown'
    exact hown'
theorem grown_after {w w1 w2 : World} {row : Option Nat} (h1 : Below w.heap.size w w1) (h2 : w1.grownBy w2 row) : w.grownBy w2 row :=
  ⟨h2.os.trans h1.os, h2.tape.trans h1.tape, h2.output.trans h1.output, Nat.le_trans h1.size h2.size, fun k hk hne => (h2.block k (Nat.lt_of_lt_of_le hk h1.size) hne).trans (h1.block k hk)⟩
set_option maxRecDepth 100000 in
set_option maxHeartbeats 4000000 in
theorem answered_none (p : Int) (ao : Option Addr) (n cap : Nat) (po : Option Addr) (k pcap : Nat) (eo : Option Addr) (m ecap : Nat) (V : Int) (so : Option Addr) (t scap : Nat) (p2 : Int) (ao2 : Option Addr) (n2 cap2 : Nat) (po2 : Option Addr) (k2 pcap2 : Nat) (eo2 : Option Addr) (m2 ecap2 : Nat) (V2 : Int) (so2 : Option Addr) (t2 scap2 : Nat) (w : World) :
    Calls Tryz.prog 23 #[.iface 81 (.agg #[]), .agg #[.int .i64 p2, .slice ao2 n2 cap2, .slice po2 k2 pcap2, .slice eo2 m2 ecap2, .int .i64 V2, .slice so2 t2 scap2], .agg #[.int .i64 p, .slice ao n cap, .slice po k pcap, .slice eo m ecap, .int .i64 V, .slice so t scap]] w fun e w' => e = .returned (.agg #[.int .i64 p, .slice ao n cap, .slice po k pcap, .slice eo m ecap, .int .i64 V, .slice so t scap]) ∧ Below w.heap.size w w' := by
  have has := fun v x w => Tryz.asP v x w
  go_enter Tryz.func23, Tryz.ntmps23
  go_wp2
  exact bodyPost_ret (v := .agg #[.int .i64 p, .slice ao n cap, .slice po k pcap, .slice eo m ecap, .int .i64 V, .slice so t scap]) (by simp [results, Tryz.results23, go_sem]) rfl ⟨rfl, (((Below.refl _ _).alloc nl _).alloc (by simp) _).alloc (by simp; omega) _⟩
set_option maxRecDepth 100000 in
set_option maxHeartbeats 8000000 in
theorem answered_q (dv : Value) (p : Int) (ao : Option Addr) (n cap : Nat) (po : Option Addr) (k pcap : Nat) (eo : Option Addr) (m ecap : Nat) (V : Int) (so : Option Addr) (t scap : Nat) (p2 : Int) (ao2 : Option Addr) (n2 cap2 : Nat) (po2 : Option Addr) (k2 pcap2 : Nat) (eo2 : Option Addr) (m2 ecap2 : Nat) (V2 : Int) (so2 : Option Addr) (t2 scap2 : Nat) (S : Nat → ByteArray) (y : ByteArray) (base : Nat) (ht : t ≤ 1000000) (w : World) (hbase : base ≤ w.heap.size) (hO : GOwn w base 9 1 so t scap (fun j => Value.string (S j)))
    (HA : ∀ W, Below w.heap.size w W → Calls Tryz.prog 134 #[dv, .agg #[.int .i64 p2, .slice ao2 n2 cap2, .slice po2 k2 pcap2, .slice eo2 m2 ecap2, .int .i64 V2, .slice so2 t2 scap2], .agg #[.int .i64 p, .slice ao n cap, .slice po k pcap, .slice eo m ecap, .int .i64 V, .slice so t scap]] W fun e w' => e = .returned (.string y) ∧ Below W.heap.size W w') :
    Calls Tryz.prog 23 #[.iface 86 dv, .agg #[.int .i64 p2, .slice ao2 n2 cap2, .slice po2 k2 pcap2, .slice eo2 m2 ecap2, .int .i64 V2, .slice so2 t2 scap2], .agg #[.int .i64 p, .slice ao n cap, .slice po k pcap, .slice eo m ecap, .int .i64 V, .slice so t scap]] w fun e w' => ∃ so' scap', e = .returned (.agg #[.int .i64 p, .slice ao n cap, .slice po k pcap, .slice eo m ecap, .int .i64 V, .slice so' (t + 1) scap']) ∧ GOwn w' base 9 1 so' (t + 1) scap' (fun j => Value.string (if j = t then y else S j)) ∧ (∀ x, (Value.slice so' (t + 1) scap').ownBlock = some x → (Value.slice so t scap).ownBlock = some x ∨ w.heap.size ≤ x) ∧ w.grownBy w' (Value.slice so t scap).ownBlock := by
  have has := fun v x w => Tryz.asQ v x w
  have hat := fun v w => qAns_at v w
  have hen := fun v w => qAns_enters v w
  have hA : Below w.heap.size w (((w.alloc (.cells #[.int .i64 p2, .slice ao2 n2 cap2, .slice po2 k2 pcap2, .slice eo2 m2 ecap2, .int .i64 V2, .slice so2 t2 scap2] 33)).alloc (.cells #[.int .i64 p, .slice ao n cap, .slice po k pcap, .slice eo m ecap, .int .i64 V, .slice so t scap] 33)).alloc (.cells #[.int .i64 0, .slice none 0 0, .slice none 0 0, .slice none 0 0, .int .i64 0, .slice none 0 0] 33)) := (((Below.refl _ _).alloc nl _).alloc (by simp) _).alloc (by simp; omega) _
  have v1 := ((sv6_new w p2 (.slice ao2 n2 cap2) (.slice po2 k2 pcap2) (.slice eo2 m2 ecap2) V2 (.slice so2 t2 scap2) 33).alloc (.cells #[.int .i64 p, .slice ao n cap, .slice po k pcap, .slice eo m ecap, .int .i64 V, .slice so t scap] 33)).alloc (.cells #[.int .i64 0, .slice none 0 0, .slice none 0 0, .slice none 0 0, .int .i64 0, .slice none 0 0] 33)
  have v2 := (sv6_new (w.alloc (.cells #[.int .i64 p2, .slice ao2 n2 cap2, .slice po2 k2 pcap2, .slice eo2 m2 ecap2, .int .i64 V2, .slice so2 t2 scap2] 33)) p (.slice ao n cap) (.slice po k pcap) (.slice eo m ecap) V (.slice so t scap) 33).alloc (.cells #[.int .i64 0, .slice none 0 0, .slice none 0 0, .slice none 0 0, .int .i64 0, .slice none 0 0] 33)
  have v3 := sv6_new ((w.alloc (.cells #[.int .i64 p2, .slice ao2 n2 cap2, .slice po2 k2 pcap2, .slice eo2 m2 ecap2, .int .i64 V2, .slice so2 t2 scap2] 33)).alloc (.cells #[.int .i64 p, .slice ao n cap, .slice po k pcap, .slice eo m ecap, .int .i64 V, .slice so t scap] 33)) 0 (.slice none 0 0) (.slice none 0 0) (.slice none 0 0) 0 (.slice none 0 0) 33
  simp only [World.size_alloc] at v1 v2 v3
  have hsz : (((w.alloc (.cells #[.int .i64 p2, .slice ao2 n2 cap2, .slice po2 k2 pcap2, .slice eo2 m2 ecap2, .int .i64 V2, .slice so2 t2 scap2] 33)).alloc (.cells #[.int .i64 p, .slice ao n cap, .slice po k pcap, .slice eo m ecap, .int .i64 V, .slice so t scap] 33)).alloc (.cells #[.int .i64 0, .slice none 0 0, .slice none 0 0, .slice none 0 0, .int .i64 0, .slice none 0 0] 33)).heap.size = w.heap.size + 3 := by simp
  have hob : ∀ x, (Value.slice so t scap).ownBlock = some x → x < w.heap.size := fun x hx => (hO.at hx).2
  replace hO := (hO.next hA)
  go_enter Tryz.func23, Tryz.ntmps23
  go_wp2_with fail
  generalize (((w.alloc (.cells #[.int .i64 p2, .slice ao2 n2 cap2, .slice po2 k2 pcap2, .slice eo2 m2 ecap2, .int .i64 V2, .slice so2 t2 scap2] 33)).alloc (.cells #[.int .i64 p, .slice ao n cap, .slice po k pcap, .slice eo m ecap, .int .i64 V, .slice so t scap] 33)).alloc (.cells #[.int .i64 0, .slice none 0 0, .slice none 0 0, .slice none 0 0, .int .i64 0, .slice none 0 0] 33)) = W at hA v1 v2 v3 hO hsz ⊢
  have hd := (Below.refl W.heap.size W).drew
  have a0 := v1.cell (j := 0) (by omega)
  have x0 := v2.cell (j := 0) (by omega)
  have a1 := v1.cell (j := 1) (by omega)
  have x1 := v2.cell (j := 1) (by omega)
  have a2 := v1.cell (j := 2) (by omega)
  have x2 := v2.cell (j := 2) (by omega)
  have a3 := v1.cell (j := 3) (by omega)
  have x3 := v2.cell (j := 3) (by omega)
  have a4 := v1.cell (j := 4) (by omega)
  have x4 := v2.cell (j := 4) (by omega)
  have a5 := v1.cell (j := 5) (by omega)
  have x5 := v2.cell (j := 5) (by omega)
  simp [sv6] at a0 a1 a2 a3 a4 a5 x0 x1 x2 x3 x4 x5
  replace hA := hA.drew
  replace v1 := v1.next hd
  replace v2 := v2.next hd
  replace v3 := v3.next hd
  replace hO := hO.next hd
  have hsd : W.drew.heap.size = w.heap.size + 3 := hsz
  clear hd hsz
  go_region_law (first | (go_simp; go_at_call 134; refine (HA _ hA).mono ?_; rintro e w4 ⟨rfl, hb4⟩; have hA4 := below_next hA nl hb4; have v24 := v2.next hb4; have v34 := v3.next hb4; have hO4 := hO.next hb4; have hs4 := hb4.size; have x5' := v24.cell (j := 5) (by omega); have x5'' := (v24.alloc (.cells #[.string y] 9)).cell (j := 5) (by omega); simp [sv6] at x5' x5'') | (refine step_append_str ?_ (.tmp 16) (.tmp 21) ?_ base t scap so S y ?_ (hO4.next ((Below.refl _ _).alloc nl _)) w4.heap.size ?_ (by simp [go_sem]) (by omega) (by simp; omega) ?_; rfl; rfl; rfl; rfl; intro g' gc' w6 hown6 hgrow6 hat6; have v26 := (v24.alloc _).grown hgrow6 (fun q => by have := hob _ q.symm; omega); have v36 := (v34.alloc _).grown hgrow6 (fun q => by have := hob _ q.symm; omega); have x56 := v26.cell (j := 5) (by omega); have z56 := v26.frozen 5; simp [sv6] at x56))
  all_goals
    have hgb : g' ≠ w.heap.size + 1 ∧ g' ≠ w.heap.size + 1 + 1 := by
      rcases hat6 with h | h
      · have := hob _ h; omega
      · simp only [World.size_alloc] at h; omega
    have hgx : ∀ x, (Value.slice (some ⟨g', 0, none⟩) (t + 1) gc').ownBlock = some x → (Value.slice so t scap).ownBlock = some x ∨ w.heap.size ≤ x := fun x hx => by
      obtain rfl : g' = x := by simpa [Value.ownBlock] using hx
      rcases hat6 with h | h
      · exact .inl h
      · simp only [World.size_alloc] at h; exact .inr (by omega)
    have v27 := v26.set 5 (.slice (some ⟨g', 0, none⟩) (t + 1) gc')
    have v37 := v36.other (c := w.heap.size + 1) (i := 5) (by omega) (.slice (some ⟨g', 0, none⟩) (t + 1) gc')
    have hG : w.grownBy (w6.setCell ⟨w.heap.size + 1, 5, none⟩ (.slice (some ⟨g', 0, none⟩) (t + 1) gc')) (Value.slice so t scap).ownBlock := grB_then (grown_after (hA4.alloc (by omega) (.cells #[.string y] 9)) hgrow6) ((Below.refl w.heap.size w6).setCell (p := ⟨w.heap.size + 1, 5, none⟩) (by simp) _) nl
    have hown7 : GOwn (w6.setCell ⟨w.heap.size + 1, 5, none⟩ (.slice (some ⟨g', 0, none⟩) (t + 1) gc')) base 9 1 (some ⟨g', 0, none⟩) (t + 1) gc' (fun j => Value.string (if j = t then y else S j)) := hown6.of_block (fun x hx => Below.heap_setCell _ _ _ _ (by
      obtain rfl : g' = x := by simpa [Value.ownBlock] using hx
      simp
      omega))
    clear v1 v2 v3 v24 v34 v26 v36 x5' x5'' x56 z56 hgrow6 hown6 hO hO4 hA hA4 hb4 a0 a1 a2 a3 a4 a5 x0 x1 x2 x3 x4 x5 has hat hen
    generalize (w6.setCell ⟨w.heap.size + 1, 5, none⟩ (.slice (some ⟨g', 0, none⟩) (t + 1) gc')) = W7 at v27 v37 hG hown7 ⊢
    have x0 := v27.cell (j := 0) (by omega)
    have r0 := v37.cell (j := 0) (by omega)
    have z0 := v37.frozen 0
    have x1 := v27.cell (j := 1) (by omega)
    have r1 := v37.cell (j := 1) (by omega)
    have z1 := v37.frozen 1
    have x2 := v27.cell (j := 2) (by omega)
    have r2 := v37.cell (j := 2) (by omega)
    have z2 := v37.frozen 2
    have x3 := v27.cell (j := 3) (by omega)
    have r3 := v37.cell (j := 3) (by omega)
    have z3 := v37.frozen 3
    have x4 := v27.cell (j := 4) (by omega)
    have r4 := v37.cell (j := 4) (by omega)
    have z4 := v37.frozen 4
    have x5 := v27.cell (j := 5) (by omega)
    have r5 := v37.cell (j := 5) (by omega)
    have z5 := v37.frozen 5
    simp [sv6] at x0 x1 x2 x3 x4 x5 r0 r1 r2 r3 r4 r5
    go_wp2
    have u := ((((((v37.set 0 (.int .i64 p)).set 1 (.slice ao n cap)).set 2 (.slice po k pcap)).set 3 (.slice eo m ecap)).set 4 (.int .i64 V)).set 5 ((.slice (some ⟨g', 0, none⟩) (t + 1) gc')))
    obtain ⟨q0, q1, q2, q3, q4, q5⟩ := u.c6
    simp [sv6] at q0 q1 q2 q3 q4 q5
    have hBX : Below w.heap.size W7 ((((((W7.setCell ⟨w.heap.size + 1 + 1, 0, none⟩ (.int .i64 p)).setCell ⟨w.heap.size + 1 + 1, 1, none⟩ (.slice ao n cap)).setCell ⟨w.heap.size + 1 + 1, 2, none⟩ (.slice po k pcap)).setCell ⟨w.heap.size + 1 + 1, 3, none⟩ (.slice eo m ecap)).setCell ⟨w.heap.size + 1 + 1, 4, none⟩ (.int .i64 V)).setCell ⟨w.heap.size + 1 + 1, 5, none⟩ ((.slice (some ⟨g', 0, none⟩) (t + 1) gc'))) := (((((((Below.refl w.heap.size W7).setCell (p := ⟨w.heap.size + 1 + 1, 0, none⟩) (by simp; omega) _).setCell (p := ⟨w.heap.size + 1 + 1, 1, none⟩) (by simp; omega) _).setCell (p := ⟨w.heap.size + 1 + 1, 2, none⟩) (by simp; omega) _).setCell (p := ⟨w.heap.size + 1 + 1, 3, none⟩) (by simp; omega) _).setCell (p := ⟨w.heap.size + 1 + 1, 4, none⟩) (by simp; omega) _).setCell (p := ⟨w.heap.size + 1 + 1, 5, none⟩) (by simp; omega) _)
    have hG2 := grB_then hG hBX nl
    have hown8 : GOwn ((((((W7.setCell ⟨w.heap.size + 1 + 1, 0, none⟩ (.int .i64 p)).setCell ⟨w.heap.size + 1 + 1, 1, none⟩ (.slice ao n cap)).setCell ⟨w.heap.size + 1 + 1, 2, none⟩ (.slice po k pcap)).setCell ⟨w.heap.size + 1 + 1, 3, none⟩ (.slice eo m ecap)).setCell ⟨w.heap.size + 1 + 1, 4, none⟩ (.int .i64 V)).setCell ⟨w.heap.size + 1 + 1, 5, none⟩ ((.slice (some ⟨g', 0, none⟩) (t + 1) gc'))) base 9 1 (some ⟨g', 0, none⟩) (t + 1) gc' (fun j => Value.string (if j = t then y else S j)) := hown7.of_block (fun x hx => by
      obtain rfl : g' = x := by simpa [Value.ownBlock] using hx
      rw [Below.heap_setCell _ _ _ _ (by simp; omega), Below.heap_setCell _ _ _ _ (by simp; omega), Below.heap_setCell _ _ _ _ (by simp; omega), Below.heap_setCell _ _ _ _ (by simp; omega), Below.heap_setCell _ _ _ _ (by simp; omega), Below.heap_setCell _ _ _ _ (by simp; omega)])
    clear u hBX hG hown7 v27 v37 x0 x1 x2 x3 x4 x5 r0 r1 r2 r3 r4 r5 z0 z1 z2 z3 z4 z5
    generalize ((((((W7.setCell ⟨w.heap.size + 1 + 1, 0, none⟩ (.int .i64 p)).setCell ⟨w.heap.size + 1 + 1, 1, none⟩ (.slice ao n cap)).setCell ⟨w.heap.size + 1 + 1, 2, none⟩ (.slice po k pcap)).setCell ⟨w.heap.size + 1 + 1, 3, none⟩ (.slice eo m ecap)).setCell ⟨w.heap.size + 1 + 1, 4, none⟩ (.int .i64 V)).setCell ⟨w.heap.size + 1 + 1, 5, none⟩ ((.slice (some ⟨g', 0, none⟩) (t + 1) gc'))) = WX at q0 q1 q2 q3 q4 q5 hG2 hown8 ⊢
    exact bodyPost_ret (v := .agg #[.int .i64 p, .slice ao n cap, .slice po k pcap, .slice eo m ecap, .int .i64 V, (.slice (some ⟨g', 0, none⟩) (t + 1) gc')]) (by simp [results, Tryz.results23, go_sem, q0, q1, q2, q3, q4, q5]) rfl ⟨_, _, rfl, hown8, hgx, hG2⟩
set_option maxRecDepth 100000 in
set_option maxHeartbeats 8000000 in
theorem answered_w (dv : Value) (p : Int) (ao : Option Addr) (n cap : Nat) (po : Option Addr) (k pcap : Nat) (eo : Option Addr) (m ecap : Nat) (V : Int) (so : Option Addr) (t scap : Nat) (p2 : Int) (ao2 : Option Addr) (n2 cap2 : Nat) (po2 : Option Addr) (k2 pcap2 : Nat) (eo2 : Option Addr) (m2 ecap2 : Nat) (V2 : Int) (so2 : Option Addr) (t2 scap2 : Nat) (S : Nat → ByteArray) (y : ByteArray) (base : Nat) (ht : t ≤ 1000000) (w : World) (hbase : base ≤ w.heap.size) (hO : GOwn w base 9 1 so t scap (fun j => Value.string (S j)))
    (HA : ∀ W, Below w.heap.size w W → Calls Tryz.prog 130 #[dv, .agg #[.int .i64 p2, .slice ao2 n2 cap2, .slice po2 k2 pcap2, .slice eo2 m2 ecap2, .int .i64 V2, .slice so2 t2 scap2], .agg #[.int .i64 p, .slice ao n cap, .slice po k pcap, .slice eo m ecap, .int .i64 V, .slice so t scap]] W fun e w' => e = .returned (.string y) ∧ Below W.heap.size W w') :
    Calls Tryz.prog 23 #[.iface 83 dv, .agg #[.int .i64 p2, .slice ao2 n2 cap2, .slice po2 k2 pcap2, .slice eo2 m2 ecap2, .int .i64 V2, .slice so2 t2 scap2], .agg #[.int .i64 p, .slice ao n cap, .slice po k pcap, .slice eo m ecap, .int .i64 V, .slice so t scap]] w fun e w' => ∃ so' scap', e = .returned (.agg #[.int .i64 p, .slice ao n cap, .slice po k pcap, .slice eo m ecap, .int .i64 V, .slice so' (t + 1) scap']) ∧ GOwn w' base 9 1 so' (t + 1) scap' (fun j => Value.string (if j = t then y else S j)) ∧ (∀ x, (Value.slice so' (t + 1) scap').ownBlock = some x → (Value.slice so t scap).ownBlock = some x ∨ w.heap.size ≤ x) ∧ w.grownBy w' (Value.slice so t scap).ownBlock := by
  have has := fun v x w => Tryz.asW v x w
  have hat := fun v w => wAns_at v w
  have hen := fun v w => wAns_enters v w
  have hA : Below w.heap.size w (((w.alloc (.cells #[.int .i64 p2, .slice ao2 n2 cap2, .slice po2 k2 pcap2, .slice eo2 m2 ecap2, .int .i64 V2, .slice so2 t2 scap2] 33)).alloc (.cells #[.int .i64 p, .slice ao n cap, .slice po k pcap, .slice eo m ecap, .int .i64 V, .slice so t scap] 33)).alloc (.cells #[.int .i64 0, .slice none 0 0, .slice none 0 0, .slice none 0 0, .int .i64 0, .slice none 0 0] 33)) := (((Below.refl _ _).alloc nl _).alloc (by simp) _).alloc (by simp; omega) _
  have v1 := ((sv6_new w p2 (.slice ao2 n2 cap2) (.slice po2 k2 pcap2) (.slice eo2 m2 ecap2) V2 (.slice so2 t2 scap2) 33).alloc (.cells #[.int .i64 p, .slice ao n cap, .slice po k pcap, .slice eo m ecap, .int .i64 V, .slice so t scap] 33)).alloc (.cells #[.int .i64 0, .slice none 0 0, .slice none 0 0, .slice none 0 0, .int .i64 0, .slice none 0 0] 33)
  have v2 := (sv6_new (w.alloc (.cells #[.int .i64 p2, .slice ao2 n2 cap2, .slice po2 k2 pcap2, .slice eo2 m2 ecap2, .int .i64 V2, .slice so2 t2 scap2] 33)) p (.slice ao n cap) (.slice po k pcap) (.slice eo m ecap) V (.slice so t scap) 33).alloc (.cells #[.int .i64 0, .slice none 0 0, .slice none 0 0, .slice none 0 0, .int .i64 0, .slice none 0 0] 33)
  have v3 := sv6_new ((w.alloc (.cells #[.int .i64 p2, .slice ao2 n2 cap2, .slice po2 k2 pcap2, .slice eo2 m2 ecap2, .int .i64 V2, .slice so2 t2 scap2] 33)).alloc (.cells #[.int .i64 p, .slice ao n cap, .slice po k pcap, .slice eo m ecap, .int .i64 V, .slice so t scap] 33)) 0 (.slice none 0 0) (.slice none 0 0) (.slice none 0 0) 0 (.slice none 0 0) 33
  simp only [World.size_alloc] at v1 v2 v3
  have hsz : (((w.alloc (.cells #[.int .i64 p2, .slice ao2 n2 cap2, .slice po2 k2 pcap2, .slice eo2 m2 ecap2, .int .i64 V2, .slice so2 t2 scap2] 33)).alloc (.cells #[.int .i64 p, .slice ao n cap, .slice po k pcap, .slice eo m ecap, .int .i64 V, .slice so t scap] 33)).alloc (.cells #[.int .i64 0, .slice none 0 0, .slice none 0 0, .slice none 0 0, .int .i64 0, .slice none 0 0] 33)).heap.size = w.heap.size + 3 := by simp
  have hob : ∀ x, (Value.slice so t scap).ownBlock = some x → x < w.heap.size := fun x hx => (hO.at hx).2
  replace hO := (hO.next hA)
  go_enter Tryz.func23, Tryz.ntmps23
  go_wp2_with fail
  generalize (((w.alloc (.cells #[.int .i64 p2, .slice ao2 n2 cap2, .slice po2 k2 pcap2, .slice eo2 m2 ecap2, .int .i64 V2, .slice so2 t2 scap2] 33)).alloc (.cells #[.int .i64 p, .slice ao n cap, .slice po k pcap, .slice eo m ecap, .int .i64 V, .slice so t scap] 33)).alloc (.cells #[.int .i64 0, .slice none 0 0, .slice none 0 0, .slice none 0 0, .int .i64 0, .slice none 0 0] 33)) = W at hA v1 v2 v3 hO hsz ⊢
  have hd := (Below.refl W.heap.size W).drew
  have a0 := v1.cell (j := 0) (by omega)
  have x0 := v2.cell (j := 0) (by omega)
  have a1 := v1.cell (j := 1) (by omega)
  have x1 := v2.cell (j := 1) (by omega)
  have a2 := v1.cell (j := 2) (by omega)
  have x2 := v2.cell (j := 2) (by omega)
  have a3 := v1.cell (j := 3) (by omega)
  have x3 := v2.cell (j := 3) (by omega)
  have a4 := v1.cell (j := 4) (by omega)
  have x4 := v2.cell (j := 4) (by omega)
  have a5 := v1.cell (j := 5) (by omega)
  have x5 := v2.cell (j := 5) (by omega)
  simp [sv6] at a0 a1 a2 a3 a4 a5 x0 x1 x2 x3 x4 x5
  replace hA := hA.drew
  replace v1 := v1.next hd
  replace v2 := v2.next hd
  replace v3 := v3.next hd
  replace hO := hO.next hd
  have hsd : W.drew.heap.size = w.heap.size + 3 := hsz
  clear hd hsz
  go_region_law (first | (go_simp; go_at_call 130; refine (HA _ hA).mono ?_; rintro e w4 ⟨rfl, hb4⟩; have hA4 := below_next hA nl hb4; have v24 := v2.next hb4; have v34 := v3.next hb4; have hO4 := hO.next hb4; have hs4 := hb4.size; have x5' := v24.cell (j := 5) (by omega); have x5'' := (v24.alloc (.cells #[.string y] 9)).cell (j := 5) (by omega); simp [sv6] at x5' x5'') | (refine step_append_str ?_ (.tmp 16) (.tmp 21) ?_ base t scap so S y ?_ (hO4.next ((Below.refl _ _).alloc nl _)) w4.heap.size ?_ (by simp [go_sem]) (by omega) (by simp; omega) ?_; rfl; rfl; rfl; rfl; intro g' gc' w6 hown6 hgrow6 hat6; have v26 := (v24.alloc _).grown hgrow6 (fun q => by have := hob _ q.symm; omega); have v36 := (v34.alloc _).grown hgrow6 (fun q => by have := hob _ q.symm; omega); have x56 := v26.cell (j := 5) (by omega); have z56 := v26.frozen 5; simp [sv6] at x56))
  all_goals
    have hgb : g' ≠ w.heap.size + 1 ∧ g' ≠ w.heap.size + 1 + 1 := by
      rcases hat6 with h | h
      · have := hob _ h; omega
      · simp only [World.size_alloc] at h; omega
    have hgx : ∀ x, (Value.slice (some ⟨g', 0, none⟩) (t + 1) gc').ownBlock = some x → (Value.slice so t scap).ownBlock = some x ∨ w.heap.size ≤ x := fun x hx => by
      obtain rfl : g' = x := by simpa [Value.ownBlock] using hx
      rcases hat6 with h | h
      · exact .inl h
      · simp only [World.size_alloc] at h; exact .inr (by omega)
    have v27 := v26.set 5 (.slice (some ⟨g', 0, none⟩) (t + 1) gc')
    have v37 := v36.other (c := w.heap.size + 1) (i := 5) (by omega) (.slice (some ⟨g', 0, none⟩) (t + 1) gc')
    have hG : w.grownBy (w6.setCell ⟨w.heap.size + 1, 5, none⟩ (.slice (some ⟨g', 0, none⟩) (t + 1) gc')) (Value.slice so t scap).ownBlock := grB_then (grown_after (hA4.alloc (by omega) (.cells #[.string y] 9)) hgrow6) ((Below.refl w.heap.size w6).setCell (p := ⟨w.heap.size + 1, 5, none⟩) (by simp) _) nl
    have hown7 : GOwn (w6.setCell ⟨w.heap.size + 1, 5, none⟩ (.slice (some ⟨g', 0, none⟩) (t + 1) gc')) base 9 1 (some ⟨g', 0, none⟩) (t + 1) gc' (fun j => Value.string (if j = t then y else S j)) := hown6.of_block (fun x hx => Below.heap_setCell _ _ _ _ (by
      obtain rfl : g' = x := by simpa [Value.ownBlock] using hx
      simp
      omega))
    clear v1 v2 v3 v24 v34 v26 v36 x5' x5'' x56 z56 hgrow6 hown6 hO hO4 hA hA4 hb4 a0 a1 a2 a3 a4 a5 x0 x1 x2 x3 x4 x5 has hat hen
    generalize (w6.setCell ⟨w.heap.size + 1, 5, none⟩ (.slice (some ⟨g', 0, none⟩) (t + 1) gc')) = W7 at v27 v37 hG hown7 ⊢
    have x0 := v27.cell (j := 0) (by omega)
    have r0 := v37.cell (j := 0) (by omega)
    have z0 := v37.frozen 0
    have x1 := v27.cell (j := 1) (by omega)
    have r1 := v37.cell (j := 1) (by omega)
    have z1 := v37.frozen 1
    have x2 := v27.cell (j := 2) (by omega)
    have r2 := v37.cell (j := 2) (by omega)
    have z2 := v37.frozen 2
    have x3 := v27.cell (j := 3) (by omega)
    have r3 := v37.cell (j := 3) (by omega)
    have z3 := v37.frozen 3
    have x4 := v27.cell (j := 4) (by omega)
    have r4 := v37.cell (j := 4) (by omega)
    have z4 := v37.frozen 4
    have x5 := v27.cell (j := 5) (by omega)
    have r5 := v37.cell (j := 5) (by omega)
    have z5 := v37.frozen 5
    simp [sv6] at x0 x1 x2 x3 x4 x5 r0 r1 r2 r3 r4 r5
    go_wp2
    have u := ((((((v37.set 0 (.int .i64 p)).set 1 (.slice ao n cap)).set 2 (.slice po k pcap)).set 3 (.slice eo m ecap)).set 4 (.int .i64 V)).set 5 ((.slice (some ⟨g', 0, none⟩) (t + 1) gc')))
    obtain ⟨q0, q1, q2, q3, q4, q5⟩ := u.c6
    simp [sv6] at q0 q1 q2 q3 q4 q5
    have hBX : Below w.heap.size W7 ((((((W7.setCell ⟨w.heap.size + 1 + 1, 0, none⟩ (.int .i64 p)).setCell ⟨w.heap.size + 1 + 1, 1, none⟩ (.slice ao n cap)).setCell ⟨w.heap.size + 1 + 1, 2, none⟩ (.slice po k pcap)).setCell ⟨w.heap.size + 1 + 1, 3, none⟩ (.slice eo m ecap)).setCell ⟨w.heap.size + 1 + 1, 4, none⟩ (.int .i64 V)).setCell ⟨w.heap.size + 1 + 1, 5, none⟩ ((.slice (some ⟨g', 0, none⟩) (t + 1) gc'))) := (((((((Below.refl w.heap.size W7).setCell (p := ⟨w.heap.size + 1 + 1, 0, none⟩) (by simp; omega) _).setCell (p := ⟨w.heap.size + 1 + 1, 1, none⟩) (by simp; omega) _).setCell (p := ⟨w.heap.size + 1 + 1, 2, none⟩) (by simp; omega) _).setCell (p := ⟨w.heap.size + 1 + 1, 3, none⟩) (by simp; omega) _).setCell (p := ⟨w.heap.size + 1 + 1, 4, none⟩) (by simp; omega) _).setCell (p := ⟨w.heap.size + 1 + 1, 5, none⟩) (by simp; omega) _)
    have hG2 := grB_then hG hBX nl
    have hown8 : GOwn ((((((W7.setCell ⟨w.heap.size + 1 + 1, 0, none⟩ (.int .i64 p)).setCell ⟨w.heap.size + 1 + 1, 1, none⟩ (.slice ao n cap)).setCell ⟨w.heap.size + 1 + 1, 2, none⟩ (.slice po k pcap)).setCell ⟨w.heap.size + 1 + 1, 3, none⟩ (.slice eo m ecap)).setCell ⟨w.heap.size + 1 + 1, 4, none⟩ (.int .i64 V)).setCell ⟨w.heap.size + 1 + 1, 5, none⟩ ((.slice (some ⟨g', 0, none⟩) (t + 1) gc'))) base 9 1 (some ⟨g', 0, none⟩) (t + 1) gc' (fun j => Value.string (if j = t then y else S j)) := hown7.of_block (fun x hx => by
      obtain rfl : g' = x := by simpa [Value.ownBlock] using hx
      rw [Below.heap_setCell _ _ _ _ (by simp; omega), Below.heap_setCell _ _ _ _ (by simp; omega), Below.heap_setCell _ _ _ _ (by simp; omega), Below.heap_setCell _ _ _ _ (by simp; omega), Below.heap_setCell _ _ _ _ (by simp; omega), Below.heap_setCell _ _ _ _ (by simp; omega)])
    clear u hBX hG hown7 v27 v37 x0 x1 x2 x3 x4 x5 r0 r1 r2 r3 r4 r5 z0 z1 z2 z3 z4 z5
    generalize ((((((W7.setCell ⟨w.heap.size + 1 + 1, 0, none⟩ (.int .i64 p)).setCell ⟨w.heap.size + 1 + 1, 1, none⟩ (.slice ao n cap)).setCell ⟨w.heap.size + 1 + 1, 2, none⟩ (.slice po k pcap)).setCell ⟨w.heap.size + 1 + 1, 3, none⟩ (.slice eo m ecap)).setCell ⟨w.heap.size + 1 + 1, 4, none⟩ (.int .i64 V)).setCell ⟨w.heap.size + 1 + 1, 5, none⟩ ((.slice (some ⟨g', 0, none⟩) (t + 1) gc'))) = WX at q0 q1 q2 q3 q4 q5 hG2 hown8 ⊢
    exact bodyPost_ret (v := .agg #[.int .i64 p, .slice ao n cap, .slice po k pcap, .slice eo m ecap, .int .i64 V, (.slice (some ⟨g', 0, none⟩) (t + 1) gc')]) (by simp [results, Tryz.results23, go_sem, q0, q1, q2, q3, q4, q5]) rfl ⟨_, _, rfl, hown8, hgx, hG2⟩
end
section
open Go.ChangeShapes Go.WideShapes Go.ChangeAt Go.RowKit Go.Deep Go.Joins
attribute [local go_sem ↓] Go.wp_at_zero Go.wp_at_succ
set_option maxHeartbeats 1000000 in
theorem batchOk_any (ao : Option Addr) (n cap : Nat) (F T G : Nat → Int) (hn : n ≤ 1048576) (w : World) (hr : Row w ao n F T G) :
    Calls Tryz.prog 52 #[.slice ao n cap] w fun e w' => e = .returned (.bool (batchB F T G n)) ∧ Below w.heap.size w w' := by
  by_cases h1 : n < 1
  · have h1' : (n : Int) < 1 := by omega
    have hv : batchB F T G n = false := by simp [batchB]; omega
    rw [hv]
    go_enter Tryz.func52, Tryz.ntmps52
    go_wp2
    go_ret
    exact ⟨rfl, Below.refl _ _⟩
  have h1' : ¬ (n : Int) < 1 := by omega
  by_cases h2 : 10 < n
  · have h2' : 10 < (n : Int) := by omega
    have hv : batchB F T G n = false := by simp [batchB]; omega
    rw [hv]
    go_enter Tryz.func52, Tryz.ntmps52
    go_wp2
    go_ret
    exact ⟨rfl, Below.refl _ _⟩
  have h2' : ¬ 10 < (n : Int) := by omega
  have hv : batchB F T G n = batB F T G n := by
    have e1 : decide (1 ≤ n) = true := by simp; omega
    have e2 : decide (n ≤ 10) = true := by simp; omega
    rw [batchB, e1, e2]; rfl
  rw [hv]
  clear hv
  go_enter Tryz.func52, Tryz.ntmps52
  go_wp2
  go_loopw [15] (fun x wr => ∃ i : Nat, i ≤ n ∧ x = .int .i64 i ∧ batB F T G i = true ∧ Below w.heap.size w wr) (fun x _ => n - (intOf x).toNat)
  case atStart => exact ⟨0, Nat.zero_le _, rfl, rfl, Below.refl _ _⟩
  case round =>
    obtain ⟨i, hi, rfl, hall, hbel⟩ := hrel
    by_cases hlt : i < n
    rotate_left
    · obtain rfl : i = n := by omega
      go_wp2
      go_ret
      exact ⟨by rw [hall]; rfl, hbel⟩
    obtain ⟨b, o, eo, c0, c1, c2⟩ := (hr.below hbel nl) i hlt
    subst eo
    have hlt' : (i : Int) < (n : Int) := by omega
    have hi0 : (0 : Int) ≤ (i : Int) := by omega
    have hal := (Below.refl wr.heap.size wr).alloc nl (.cells #[.int .i64 (F i), .int .i64 (T i), .int .i64 (G i)] 67)
    have hB := below_next hbel nl hal
    cases ha : arcB (F i) (T i) (G i) 24
    · have hno := batB_no hlt ha
      go_wp2_with fail
      refine (arcOk_any (F i) (T i) (G i) 24 _).mono ?_
      rintro e w1 ⟨rfl, hb1⟩
      rw [ha]
      go_wp2
      go_ret
      exact ⟨by rw [hno]; rfl, below_next hB nl hb1⟩
    · go_wp2_with fail
      refine (arcOk_any (F i) (T i) (G i) 24 _).mono ?_
      rintro e w1 ⟨rfl, hb1⟩
      rw [ha]
      go_wp2
      go_roundw
      case rel => exact ⟨i + 1, by omega, by go_num, by simp [batB, hall, ha], below_next hB nl hb1⟩
      case measure => simp [intOf]; omega
def deedV (K : Int) (ao : Option Addr) (n cap : Nat) (a b : Int) : Value :=
  if K = 1 then .iface 81 (.agg #[])
  else if K = 2 then .iface 83 (.agg #[.slice ao n cap])
  else if K = 3 then .iface 86 (.agg #[.int .i64 a, .int .i64 b])
  else .nilIface
end
end Go.Proofs.YthmpliljffmmcaaGreatDoor
