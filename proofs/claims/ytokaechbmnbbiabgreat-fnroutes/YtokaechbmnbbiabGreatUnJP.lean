/-
  The program's unpack: a way by a stack of steps.
-/
import Derived.Test.YtokaechbmnbbiabGreatUnIP
import Derived.ArgAppend
import Derived.Deep.LoopGhost
set_option linter.unusedVariables false
set_option linter.unusedSimpArgs false
namespace Go.Proofs.YtokaechbmnbbiabGreat
open Go.RowKit Go.Maps Go.Deep
attribute [local go_sem ↓] Go.wp_at_zero Go.wp_at_succ

def SRow (w : World) (b o : Nat) (l : List (Nat × Bool)) : Prop := ∀ (j e : Nat) (u : Bool), l[j]? = some (e, u) → w.cell? ⟨b, o + j * 2, none⟩ = some (.int .i64 (e : Int)) ∧ w.cell? ⟨b, o + j * 2 + 1, none⟩ = some (.bool u)
theorem SRow.below {w w' : World} {b o B : Nat} {l : List (Nat × Bool)} (h : SRow w b o l) (hb : Below B w w') (hB : b < B) : SRow w' b o l := fun j e u hj => by
  obtain ⟨h1, h2⟩ := h j e u hj
  rw [hb.cell hB, hb.cell hB]
  exact ⟨h1, h2⟩
theorem SRow.grown {w w' : World} {b o g : Nat} {l : List (Nat × Bool)} (h : SRow w b o l) (hg : w.grownBy w' (some g)) (hb : b < w.heap.size) (hne : b ≠ g) : SRow w' b o l := fun j e u hj => by
  obtain ⟨h1, h2⟩ := h j e u hj
  have hbl := hg.block b hb (by simpa using hne)
  exact ⟨by simpa [World.cell?, hbl] using h1, by simpa [World.cell?, hbl] using h2⟩
def scells : List (Nat × Bool) → List Value
  | [] => []
  | s :: l => .int .i64 (s.1 : Int) :: .bool s.2 :: scells l
theorem scells_len : ∀ l, (scells l).length = l.length * 2
  | [] => rfl
  | s :: l => by simp [scells, scells_len l]; omega
theorem scells_app : ∀ l l', scells (l ++ l') = scells l ++ scells l'
  | [], _ => rfl
  | s :: l, l' => by simp [scells, scells_app l l']
theorem scells_even : ∀ (l : List (Nat × Bool)) (j : Nat), (scells l)[j * 2]? = l[j]?.map fun s => Value.int .i64 (s.1 : Int)
  | [], j => by simp [scells]
  | s :: l, 0 => by simp [scells]
  | s :: l, j + 1 => by
    rw [show (j + 1) * 2 = j * 2 + 1 + 1 by omega]
    simp only [scells, List.getElem?_cons_succ]
    exact scells_even l j
theorem scells_odd : ∀ (l : List (Nat × Bool)) (j : Nat), (scells l)[j * 2 + 1]? = l[j]?.map fun s => Value.bool s.2
  | [], j => by simp [scells]
  | s :: l, 0 => by simp [scells]
  | s :: l, j + 1 => by
    rw [show (j + 1) * 2 + 1 = j * 2 + 1 + 1 + 1 by omega]
    simp only [scells, List.getElem?_cons_succ]
    exact scells_odd l j
theorem SRow.olds {w : World} {b o : Nat} {l : List (Nat × Bool)} (h : SRow w b o l) : ∀ j u, (scells l)[j]? = some u → w.cell? ⟨b, o + j, none⟩ = some u := fun j u hj => by
  rcases Nat.mod_two_eq_zero_or_one j with he | he
  · obtain ⟨i, rfl⟩ : ∃ i, j = i * 2 := ⟨j / 2, by omega⟩
    rw [scells_even] at hj
    obtain ⟨⟨e, v⟩, h1, h2⟩ := Option.map_eq_some_iff.1 hj
    rw [(h i e v h1).1, ← h2]
  · obtain ⟨i, rfl⟩ : ∃ i, j = i * 2 + 1 := ⟨j / 2, by omega⟩
    rw [scells_odd] at hj
    obtain ⟨⟨e, v⟩, h1, h2⟩ := Option.map_eq_some_iff.1 hj
    rw [← Nat.add_assoc, (h i e v h1).2, ← h2]
theorem srow_of {w : World} {b o : Nat} {l : List (Nat × Bool)} (h : ∀ j u, (scells l)[j]? = some u → w.cell? ⟨b, o + j, none⟩ = some u) : SRow w b o l := fun j e u hj => by
  refine ⟨h (j * 2) _ (by rw [scells_even, hj]; rfl), ?_⟩
  have := h (j * 2 + 1) _ (by rw [scells_odd, hj]; rfl)
  rw [← Nat.add_assoc] at this
  exact this
theorem SRow.take {w : World} {b o n : Nat} {l : List (Nat × Bool)} (h : SRow w b o l) : SRow w b o (l.take n) := fun j e u hj => by
  rw [List.getElem?_take] at hj
  split at hj
  · exact h j e u hj
  · cases hj
theorem Tryz.infoStep : (Tryz.prog.info? 104).map (fun i => (i.zero, i.size, i.bytes)) = some (some (.agg #[.int .i64 0, .bool false]), 2, 16) := by kernel_rfl
theorem wpList_appS {w : World} {ops : Array Oper} {rest : List Oper} {oo : Oper} {a : Act} {Q : Exit → Act → World → Prop} (hgd : oo.guard = none) (s x : Operand)
    (ho : oo.op = .call { callee := .builtin .append, args := #[s, x], argTypes := #[100, 100] }) (d : Nat) (hd : oo.dst = some d) (b o n : Nat) (l : List (Nat × Bool)) (hn : l.length = n) (hs : a.eval s = .slice (some ⟨b, o, none⟩) n n) (hS : SRow w b o l)
    (y c e1 e2 : Nat) (u1 u2 : Bool) (hx : a.eval x = .slice (some ⟨y, 0, none⟩) 2 c) (hY : SRow w y 0 [(e1, u1), (e2, u2)]) (hk : n ≤ 4000000000)
    (h : ∀ g gc w', SRow w' g 0 (l ++ [(e1, u1), (e2, u2)]) → w.heap.size ≤ g → g < w'.heap.size → n + 2 ≤ gc → w.grownBy w' none → wpList Tryz.prog ops Q rest (a.put (some d) (.slice (some ⟨g, 0, none⟩) (n + 2) gc)) w') : wpList Tryz.prog ops Q (oo :: rest) a w := by
  obtain ⟨i, hi, hz0, hz1, hz2⟩ := info_parts Tryz.infoStep
  subst hn
  refine wpList_append_grows w hgd s x 100 ho 104 i _ 2 16 Tryz.underlying100 hi hz0 hz1 hz2 rfl (by omega) (some ⟨b, o, none⟩) l.length l.length (scells l) hs (fun h => by cases h) (scells_len l) ?_ ⟨y, 0, none⟩ 2 c (scells [(e1, u1), (e2, u2)]) hx rfl ?_ ?_ (by omega) (by unfold maxLen; omega) (by omega) ?_
  · intro b' e j u hu
    cases e
    have : (⟨b, o, none⟩ : Addr).add j = ⟨b, o + j, none⟩ := by unfold Addr.add; split <;> simp_all
    rw [this]
    exact hS.olds j u hu
  · intro j u hu
    have : (⟨y, 0, none⟩ : Addr).add j = ⟨y, 0 + j, none⟩ := by unfold Addr.add; split <;> simp_all
    rw [this]
    exact hY.olds j u hu
  · intro u hu
    simp [scells] at hu
    rcases hu with rfl | rfl | rfl | rfl <;> rfl
  · intro v' w' hown hgr
    rw [hd]
    obtain ⟨hlen, ⟨rfl, h0⟩ | ⟨g, gc, cur, rfl, hg, hblk, hnc, _, hsz, ht⟩⟩ := hown
    · omega
    · refine h g gc w' (srow_of fun j u hu => ?_) hg (by have := (Array.getElem?_eq_some_iff.1 hblk).1; exact this) hnc hgr
      rw [scells_app, ← ht, List.getElem?_take] at hu
      split at hu
      · have hc : cur[j]? = some u := by simpa using hu
        simp [World.cell?, hblk, hc]
      · cases hu
theorem wpList_appL {w : World} {ops : Array Oper} {rest : List Oper} {o : Oper} {a : Act} {Q : Exit → Act → World → Prop} (hgd : o.guard = none) (s x : Operand)
    (ho : o.op = .call { callee := .builtin .append, args := #[s, x], argTypes := #[27, 27] }) (d : Nat) (hd : o.dst = some d) (base g gc : Nat) (l : List Int) (hs : a.eval s = .slice (some ⟨g, 0, none⟩) l.length gc) (hown : LOwn w base (some ⟨g, 0, none⟩) gc l) (b c : Nat) (v : Int) (hx : a.eval x = .slice (some ⟨b, 0, none⟩) 1 c)
    (h0 : w.cell? ⟨b, 0, none⟩ = some (.int .i64 v)) (hk : l.length ≤ 1000000000) (hbase : base ≤ w.heap.size)
    (h : ∀ g' gc' w', LOwn w' base (some ⟨g', 0, none⟩) gc' (l ++ [v]) → w.grownBy w' (some g) → (g' = g ∨ g' = w.heap.size) → wpList Tryz.prog ops Q rest (a.put (some d) (.slice (some ⟨g', 0, none⟩) (l.length + 1) gc')) w') : wpList Tryz.prog ops Q (o :: rest) a w :=
  wpList_plain hgd fun K hK => wp_appL s x ho d hd base gc (some ⟨g, 0, none⟩) l [v] hs hown b 0 1 c rfl hx (fun j u hu => by
    match j, hu with
    | 0, hu => simp at hu; subst hu; exact h0
    | j + 1, hu => simp at hu) (by omega) hk (by omega) hbase fun g' gc' w' h1 h2 h3 => hK _ _ (h g' gc' w' h1 h2 (h3.imp (fun h3 => by simpa [Value.ownBlock] using h3.symm) id))
def rkS (L H : Nat → Int) (s : Nat × Bool) : Nat × Nat × Bool := ((L s.1).toNat, (H s.1).toNat, s.2)
structure G9 (w W : World) (p : Int) (ao : Option Addr) (n cap : Nat) (po : Option Addr) (k pcap : Nat) (eo : Option Addr) (m ecap : Nat) (uo : Option Addr) (ucap : Nat) (vo : Option Addr) (vcap : Nat) (ma me : Nat) : Prop where
  bel : Below w.heap.size w W
  c0 : W.cell? ⟨w.heap.size, 0, none⟩ = some (.int .i64 p)
  c1 : W.cell? ⟨w.heap.size, 1, none⟩ = some (.slice ao n cap)
  c2 : W.cell? ⟨w.heap.size, 2, none⟩ = some (.slice po k pcap)
  c3 : W.cell? ⟨w.heap.size, 3, none⟩ = some (.slice eo m ecap)
  c4 : W.cell? ⟨w.heap.size, 4, none⟩ = some (.slice uo m ucap)
  c5 : W.cell? ⟨w.heap.size, 5, none⟩ = some (.slice vo m vcap)
  c6 : W.cell? ⟨w.heap.size, 6, none⟩ = some (.map (some ma))
  c7 : W.cell? ⟨w.heap.size, 7, none⟩ = some (.map (some me))
  sz : w.heap.size + 1 ≤ W.heap.size
theorem g9_new (w : World) {p : Int} {ao : Option Addr} {n cap : Nat} {po : Option Addr} {k pcap : Nat} {eo : Option Addr} {m ecap : Nat} {uo : Option Addr} {ucap : Nat} {vo : Option Addr} {vcap : Nat} {ma me : Nat} : G9 w (w.alloc (.cells #[.int .i64 p, .slice ao n cap, .slice po k pcap, .slice eo m ecap, .slice uo m ucap, .slice vo m vcap, .map (some ma), .map (some me)] 98)) p ao n cap po k pcap eo m ecap uo ucap vo vcap ma me :=
  ⟨(Below.refl _ _).alloc (Nat.le_refl _) _, by simp [go_sem], by simp [go_sem], by simp [go_sem], by simp [go_sem], by simp [go_sem], by simp [go_sem], by simp [go_sem], by simp [go_sem], by simp⟩
theorem G9.far {w W W' : World} {p : Int} {ao : Option Addr} {n cap : Nat} {po : Option Addr} {k pcap : Nat} {eo : Option Addr} {m ecap : Nat} {uo : Option Addr} {ucap : Nat} {vo : Option Addr} {vcap : Nat} {ma me : Nat} (h : G9 w W p ao n cap po k pcap eo m ecap uo ucap vo vcap ma me) (hb : Below (w.heap.size + 1) W W') : G9 w W' p ao n cap po k pcap eo m ecap uo ucap vo vcap ma me :=
  ⟨h.bel.trans (hb.mono (by omega)), by rw [hb.cell (by simp)]; exact h.c0, by rw [hb.cell (by simp)]; exact h.c1, by rw [hb.cell (by simp)]; exact h.c2, by rw [hb.cell (by simp)]; exact h.c3, by rw [hb.cell (by simp)]; exact h.c4, by rw [hb.cell (by simp)]; exact h.c5, by rw [hb.cell (by simp)]; exact h.c6, by rw [hb.cell (by simp)]; exact h.c7, Nat.le_trans h.sz hb.size⟩
theorem G9.next {w W W' : World} {p : Int} {ao : Option Addr} {n cap : Nat} {po : Option Addr} {k pcap : Nat} {eo : Option Addr} {m ecap : Nat} {uo : Option Addr} {ucap : Nat} {vo : Option Addr} {vcap : Nat} {ma me : Nat} (h : G9 w W p ao n cap po k pcap eo m ecap uo ucap vo vcap ma me) (hb : Below W.heap.size W W') : G9 w W' p ao n cap po k pcap eo m ecap uo ucap vo vcap ma me := h.far (hb.mono h.sz)
theorem lown_lit1 (w : World) {base : Nat} (a : Int) (hb : base ≤ w.heap.size) : LOwn (w.alloc (.cells #[.int .i64 a] 2)) base (some ⟨w.heap.size, 0, none⟩) 1 [a] := by
  have := World.ownsRow_lit (base := base) (e := 2) (size := 1) w #[.int .i64 a] 1 hb (by unfold maxLen; omega) rfl
  simpa [LOwn, lcells] using this

structure UnK (w W : World) (p : Int) (ao : Option Addr) (n cap : Nat) (F T G : Nat → Int) (po : Option Addr) (k pcap : Nat) (P : Nat → Int) (eo : Option Addr) (m ecap : Nat) (L H : Nat → Int) (uo : Option Addr) (ucap : Nat) (U : Nat → Int) (vo : Option Addr) (vcap : Nat) (V : Nat → Int) (ma me : Nat) (tot : List Int) (l : List (Nat × Bool)) (b o c : Nat) (path : List Int) (g gc : Nat) : Prop where
  box : G9 w W p ao n cap po k pcap eo m ecap uo ucap vo vcap ma me
  own : LOwn W (w.heap.size + 1) (some ⟨g, 0, none⟩) gc path
  tot : path ++ (netOf n F T G P m L H U V).rest (l.reverse.map (rkS L H)) = tot
  row : SRow W b o l
  lc : l.length ≤ c
  ne : b ≠ g
  lt : b < W.heap.size
  far : ∀ s ∈ l, s.1 < m ∧ (netOf n F T G P m L H U V).wt (L s.1).toNat (H s.1).toNat s.2 < 1000000000000
  glt : g < W.heap.size

theorem below_of_gr {w w' : World} (h : w.grownBy w' none) : Below w.heap.size w w' := ⟨h.os, h.tape, h.output, h.size, fun k hk => h.block k hk (by simp)⟩
theorem Net.todo_le (x : Net) : ∀ st, x.todo st ≤ 2 * (x.rest st).length
  | [] => by simp [Net.todo]
  | s :: st => by
    have := Net.todo_le x st
    simp only [Net.todo, Net.rest, List.length_append]
    omega
theorem Net.len_le (x : Net) : ∀ st : List (Nat × Nat × Bool), st.length ≤ x.todo st
  | [] => by simp
  | s :: st => by
    have := Net.len_le x st
    have h1 := (x.wy_len s.1 s.2.1 s.2.2).1
    simp only [Net.todo, List.length_cons]
    omega

set_option maxRecDepth 100000 in
set_option maxHeartbeats 400000 in
theorem unpack_any (p : Int) (ao : Option Addr) (n cap : Nat) (F T G : Nat → Int) (po : Option Addr) (k pcap : Nat) (P : Nat → Int) (eo : Option Addr) (m ecap : Nat) (L H : Nat → Int) (uo : Option Addr) (ucap : Nat) (U : Nat → Int) (vo : Option Addr) (vcap : Nat) (V : Nat → Int) (ma me : Nat) (D : Gd p n F T G k P m L H U V) (a : Int) (b o c : Nat) (l : List (Nat × Bool)) (hT : ((netOf n F T G P m L H U V).rest (l.reverse.map (rkS L H))).length ≤ 900000000) (hs : ∀ s ∈ l, s.1 < m ∧ (netOf n F T G P m L H U V).wt (L s.1).toNat (H s.1).toNat s.2 < 1000000000000) (w : World) (hr : GOn w ao n F T G po k P eo m L H uo U vo V ma me) (hS : SRow w b o l) (hbw : b < w.heap.size) (hlc : l.length ≤ c) :
    Calls Tryz.prog 72 #[(.agg #[.int .i64 p, .slice ao n cap, .slice po k pcap, .slice eo m ecap, .slice uo m ucap, .slice vo m vcap, .map (some ma), .map (some me)]), .int .i64 a, .slice (some ⟨b, o, none⟩) l.length c] w fun x w' => ∃ g gc, x = .returned (.slice (some ⟨g, 0, none⟩) ((netOf n F T G P m L H U V).rest (l.reverse.map (rkS L H))).length.succ gc) ∧ LOwn w' w.heap.size (some ⟨g, 0, none⟩) gc (a :: (netOf n F T G P m L H U V).rest (l.reverse.map (rkS L H))) ∧ Below w.heap.size w w' := by
  have B0 := g9_new w (p := p) (ao := ao) (n := n) (cap := cap) (po := po) (k := k) (pcap := pcap) (eo := eo) (m := m) (ecap := ecap) (uo := uo) (ucap := ucap) (vo := vo) (vcap := vcap) (ma := ma) (me := me)
  have O0 := lown_lit1 (w.alloc (.cells #[.int .i64 p, .slice ao n cap, .slice po k pcap, .slice eo m ecap, .slice uo m ucap, .slice vo m vcap, .map (some ma), .map (some me)] 98)) (base := w.heap.size + 1) a (by simp)
  simp only [World.size_alloc] at O0
  replace B0 := B0.next ((Below.refl _ _).alloc (Nat.le_refl _) (.cells #[.int .i64 a] 2))
  have hTd := Net.todo_le (netOf n F T G P m L H U V) (l.reverse.map (rkS L H))
  generalize hTot : (netOf n F T G P m L H U V).rest (l.reverse.map (rkS L H)) = Tot at hT hTd
  have hsz0 : w.heap.size + 1 < ((w.alloc (.cells #[.int .i64 p, .slice ao n cap, .slice po k pcap, .slice eo m ecap, .slice uo m ucap, .slice vo m vcap, .map (some ma), .map (some me)] 98)).alloc (.cells #[.int .i64 a] 2)).heap.size := by simp
  have hS0 := hS.below B0.bel hbw
  have K0 : UnK w ((w.alloc (.cells #[.int .i64 p, .slice ao n cap, .slice po k pcap, .slice eo m ecap, .slice uo m ucap, .slice vo m vcap, .map (some ma), .map (some me)] 98)).alloc (.cells #[.int .i64 a] 2)) p ao n cap F T G po k pcap P eo m ecap L H uo ucap U vo vcap V ma me (a :: Tot) l b o c [a] (w.heap.size + 1) 1 := ⟨B0, O0, by rw [hTot]; rfl, hS0, hlc, by omega, by have := B0.sz; omega, hs, hsz0⟩
  clear O0 B0 hsz0 hS0 hTot
  go_enter Tryz.func72, Tryz.ntmps72
  go_wp2
  generalize ((w.alloc (.cells #[.int .i64 p, .slice ao n cap, .slice po k pcap, .slice eo m ecap, .slice uo m ucap, .slice vo m vcap, .map (some ma), .map (some me)] 98)).alloc (.cells #[.int .i64 a] 2)) = W at K0 ⊢
  go_loopg [2, 7] 1800000000 (fun gk x y wr => ∃ l b o c path g gc, x = .slice (some ⟨b, o, none⟩) (l.length) c ∧ y = .slice (some ⟨g, 0, none⟩) (path.length) gc ∧ UnK w wr p ao n cap F T G po k pcap P eo m ecap L H uo ucap U vo vcap V ma me (a :: Tot) l b o c path g gc ∧ (netOf n F T G P m L H U V).todo (l.reverse.map (rkS L H)) ≤ gk ∧ gk ≤ 1800000000)
  case atStart => exact ⟨l, b, o, c, [a], _, _, rfl, rfl, K0, by omega, Nat.le_refl _⟩
  case round =>
    clear K0 hS hbw hlc hs hTd
    obtain ⟨l1, b1, o1, c1, path, g, gc, rfl, rfl, K, hgk, hgk2⟩ := hrel
    have hll := Net.len_le (netOf n F T G P m L H U V) (l1.reverse.map (rkS L H))
    simp only [List.length_map, List.length_reverse] at hll
    have hpl : path.length ≤ 900000001 := by
      have := congrArg List.length K.tot
      simp only [List.length_append, List.length_cons] at this
      omega
    have hgk3 : Hid ((netOf n F T G P m L H U V).todo (l1.reverse.map (rkS L H)) ≤ gk) := hgk
    have hcc : l1 = [] ∨ ∃ l0 e u, l1 = l0 ++ [((e, u) : Nat × Bool)] := by
      rcases List.eq_nil_or_concat l1 with h | ⟨l0, ⟨e, u⟩, h⟩
      · exact Or.inl h
      · exact Or.inr ⟨l0, e, u, by rw [h, List.concat_eq_append]⟩
    rcases hcc with rfl | ⟨l0, e, u, rfl⟩
    · have hp := K.tot
      simp only [List.reverse_nil, List.map_nil, Net.rest, List.append_nil] at hp
      have HP : Hid (path = a :: Tot) := hp
      clear hp hgk hll
      go_wp2
      go_ret
      refine ⟨g, gc, by rw [HP.out]; rfl, ?_, K.box.bel⟩
      have := K.own.from (base' := w.heap.size) (by omega)
      rw [HP.out] at this
      exact this
    have hlen : (l0 ++ [(e, u)]).length = l0.length + 1 := by simp
    obtain ⟨r0, r1⟩ := K.row l0.length e u (by simp)
    obtain ⟨hem, hwt⟩ := K.far (e, u) (by simp)
    have hlc := K.lc
    rw [hlen] at hll hlc ⊢
    have hb1 := K.lt
    have l1' : (0 : Int) < (l0.length : Int) + 1 := by omega
    have l2 : (0 : Int) ≤ (l0.length : Int) := by omega
    have l3 : (l0.length : Int) < (l0.length : Int) + 1 := by omega
    have l5 : wrap64 (l0.length : Int) = (l0.length : Int) := by unfold wrap64; omega
    have HG : Hid (gk ≤ 1800000000) := hgk2
    have HL : Hid (l0.length + 1 ≤ (netOf n F T G P m L H U V).todo ((l0 ++ [(e, u)]).reverse.map (rkS L H))) := hll
    have HP : Hid (path.length ≤ 900000001) := hpl
    clear hgk2 hll hpl hT
    have HTw : Hid ((netOf n F T G P m L H U V).wt (L e).toNat (H e).toNat u < 1000000000000) := hwt
    have B1 := K.box.next ((Below.refl _ _).alloc (Nat.le_refl _) (.cells #[.int .i64 (e : Int), .bool u] 104))
    have x0 := B1.c0
    have x1 := B1.c1
    have x2 := B1.c2
    have x3 := B1.c3
    have x4 := B1.c4
    have x5 := B1.c5
    have x6 := B1.c6
    have x7 := B1.c7
    have hbx := K.box.sz
    clear hwt hgk hlen
    obtain ⟨q, hq⟩ := D.q
    have hed := D.ed e hem
    obtain ⟨lo, hlo⟩ : ∃ lo : Nat, L e = (lo : Int) := ⟨(L e).toNat, by omega⟩
    obtain ⟨hi, hhi⟩ : ∃ hi : Nat, H e = (hi : Int) := ⟨(H e).toNat, by omega⟩
    have hfe : fnd L H lo hi m = e := fnd_is hq hem hlo hhi
    have HT1 : (netOf n F T G P m L H U V).wt lo hi u < 1000000000000 := by have := HTw.out; rw [hlo, hhi] at this; simpa using this
    have HH := fun W h => halves_any p ao n cap F T G po k pcap P eo m ecap L H uo ucap U vo vcap V ma me D lo hi u e hem hlo hhi hfe HT1 W h
    have hrk : rkS L H (e, u) = (lo, hi, u) := by simp [rkS, hlo, hhi]
    have hrest : (l0 ++ [(e, u)]).reverse.map (rkS L H) = (lo, hi, u) :: l0.reverse.map (rkS L H) := by simp [hrk]
    have HR : Hid ((l0 ++ [(e, u)]).reverse.map (rkS L H) = (lo, hi, u) :: l0.reverse.map (rkS L H)) := hrest
    have HD : Hid (Gd p n F T G k P m L H U V) := D
    have HED : Hid (L e = (lo : Int) ∧ H e = (hi : Int) ∧ 0 ≤ L e ∧ L e < H e ∧ H e < k ∧ edB q L H m = true ∧ fnd L H lo hi m = e ∧ (netOf n F T G P m L H U V).wt lo hi u < 1000000000000) := ⟨hlo, hhi, hed.1, hed.2.1, hed.2.2, hq, hfe, HT1⟩
    clear hrest hrk HT1 hfe hed hq hlo hhi D HTw
    cases hhf : (netOf n F T G P m L H U V).half lo hi u with
    | none =>
      rw [hhf] at HH
      simp only [hlv] at HH
      go_wp2_with fail
      have hN : Below wr.heap.size wr (wr.alloc (.cells #[.int .i64 (e : Int), .bool u] 104)) := (Below.refl _ _).alloc (Nat.le_refl _) _
      have y0 : (wr.alloc (.cells #[.int .i64 (e : Int), .bool u] 104)).cell? ⟨wr.heap.size, 0, none⟩ = some (.int .i64 (e : Int)) := by simp [go_sem]
      have y1 : (wr.alloc (.cells #[.int .i64 (e : Int), .bool u] 104)).cell? ⟨wr.heap.size, 1, none⟩ = some (.bool u) := by simp [go_sem]
      generalize (wr.alloc (.cells #[.int .i64 (e : Int), .bool u] 104)) = Wn at B1 x0 x1 x2 x3 x4 x5 x6 x7 hN y0 y1 ⊢
      refine (HH _ (hr.next B1.bel)).mono ?_
      rintro x w2 ⟨rfl, hb2⟩
      have hb2' := hb2.trans (((Below.refl _ _).alloc hb2.size (.cells #[.int .i64 0, .bool false] 104)).alloc (by have := hb2.size; simp; omega) (.cells #[.int .i64 0, .bool false] 104))
      have B3 := B1.next hb2'
      replace hN := below_next hN (Nat.le_refl _) hb2'
      replace y0 := keep_cell hb2' (Nat.le_refl _) y0
      replace y1 := keep_cell hb2' (Nat.le_refl _) y1
      clear x0 x1 x2 x3 x4 x5 x6 x7 B1
      have x0 := B3.c0
      have x1 := B3.c1
      have x2 := B3.c2
      have x3 := B3.c3
      have x4 := B3.c4
      have x5 := B3.c5
      have x6 := B3.c6
      have x7 := B3.c7
      go_wp2_with fail
      generalize ((w2.alloc (.cells #[.int .i64 0, .bool false] 104)).alloc (.cells #[.int .i64 0, .bool false] 104)) = Wm at B3 x0 x1 x2 x3 x4 x5 x6 x7 hN y0 y1 ⊢
      refine (ranks_any _ _ _ _ _ _ _ _ _ _ _ _ _ _ _ _ L H e u hem HD.out.hm _ (hr.next B3.bel).rows.eds).mono ?_
      rintro x w3 ⟨rfl, hb3⟩
      have B4 := B3.next hb3
      replace hN := below_next hN (Nat.le_refl _) hb3
      clear x0 x1 x2 x3 x4 x5 x6 x7 B3 y0 y1
      have ht : (if u = true then H e else L e) = ((toR lo hi u : Nat) : Int) := by
        have := HED.out
        rw [this.1, this.2.1]
        cases u <;> rfl
      have hf : (if u = true then L e else H e) = ((frR lo hi u : Nat) : Int) := by
        have := HED.out
        rw [this.1, this.2.1]
        cases u <;> rfl
      rw [hf, ht]
      have htk : toR lo hi u < k := by
        have := HED.out
        unfold toR
        split <;> omega
      obtain ⟨bo, oo, hpo, d0⟩ := (hr.next B4.bel).rows.ord (toR lo hi u) htk
      have x2 := B4.c2
      rw [hpo] at x2
      have l7 : (0 : Int) ≤ ((toR lo hi u : Nat) : Int) := by omega
      have l8 : ((toR lo hi u : Nat) : Int) < (k : Int) := by omega
      have hsw := hN.size
      have HB4 : Hid (G9 w w3 p ao n cap po k pcap eo m ecap uo ucap vo vcap ma me) := B4
      have HN : Hid (Below wr.heap.size wr w3) := hN
      have HPO : Hid (po = some ⟨bo, oo, none⟩) := hpo
      clear ht hf HH hpo
      go_wp2_with (at_builtin; refine wpList_appL rfl _ _ rfl 58 rfl (w.heap.size + 1) g gc path rfl ((K.own.next HN.out).next ((Below.refl _ _).alloc (Nat.le_refl _) _)) w3.heap.size 1 (P (toR lo hi u)) rfl (by simp [go_sem]) (by have := HP.out; omega) (by have := HB4.out.sz; simp; omega) ?_; intro g' gc' w4 hO hgr hat)
      have hg1 := (K.own.at rfl).1
      have hfar := gr_below hgr (B := w.heap.size + 1) hg1 (by have := HB4.out.sz; simp; omega)
      have hdone := Net.todo_none (st := l0.reverse.map (rkS L H)) hhf
      have hgo := hgk3.out
      rw [HR.out] at hgo
      have hXs : wr.heap.size ≤ (w3.alloc (.cells #[.int .i64 (P (toR lo hi u))] 2)).heap.size := by simp; omega
      have K' : UnK w w4 p ao n cap F T G po k pcap P eo m ecap L H uo ucap U vo vcap V ma me (a :: Tot) l0 b1 o1 l0.length (path ++ [P (toR lo hi u)]) g' gc' := by
        refine ⟨(HB4.out.next ((Below.refl _ _).alloc (Nat.le_refl _) _)).far hfar, hO, ?_, ?_, Nat.le_refl _, ?_, ?_, fun s hs => K.far s (by simp [hs]), (hO.at rfl).2⟩
        · rw [← K.tot, HR.out, Net.rest_none hhf]
          simp [netOf]
        · refine SRow.grown (SRow.below (l := l0) (fun j e' u' hj => K.row j e' u' ?_) (HN.out.trans ((Below.refl _ _).alloc hN.size _)) hb1) hgr (by omega) K.ne
          rw [List.getElem?_append_left (List.getElem?_eq_some_iff.1 hj).1]
          exact hj
        · rcases hat with rfl | rfl
          · exact K.ne
          · omega
        · have := hgr.size
          omega
      go_wp2
      go_roundg ((netOf n F T G P m L H U V).todo (l0.reverse.map (rkS L H)))
      case measure => omega
      case rel => exact ⟨l0, b1, o1, l0.length, path ++ [P (toR lo hi u)], g', gc', rfl, by simp, K', Nat.le_refl _, by have := HG.out; omega⟩
    | some v =>
      rw [hhf] at HH
      simp only [hlv] at HH
      have hfit := Net.half_fit hhf
      have hvlt := Net.half_lt hhf
      simp only [Net.fit, netOf, Bool.and_eq_true, decide_eq_true_eq] at hfit
      obtain ⟨⟨hsf, hst⟩, hsum⟩ := hfit
      have hf1 := fnd_at m (hsB_iff.1 hsf)
      have hf2 := fnd_at m (hsB_iff.1 hst)
      obtain ⟨i0, hi0⟩ : ∃ i0, fnd L H v (frR lo hi u) m = i0 := ⟨_, rfl⟩
      obtain ⟨k0, hk0⟩ : ∃ k0, fnd L H v (toR lo hi u) m = k0 := ⟨_, rfl⟩
      have hsum' := of_decide_eq_true hsum
      have hlt := addF_lt hsum' (by simpa [netOf] using HED.out.2.2.2.2.2.2.2) (HD.out.dn _ hf1.1).1 (HD.out.up _ hf2.1).1
      rw [hi0] at hf1 hlt HH
      rw [hk0] at hf2 hlt HH
      have hnew : ∀ s ∈ [((k0, true) : Nat × Bool), (i0, false)], s.1 < m ∧ (netOf n F T G P m L H U V).wt (L s.1).toNat (H s.1).toNat s.2 < 1000000000000 := by
        intro s hs
        simp only [List.mem_cons, List.mem_singleton, List.not_mem_nil, or_false] at hs
        rcases hs with rfl | rfl
        · refine ⟨hf2.1, ?_⟩
          simp only [hf2.2.1, hf2.2.2, Int.toNat_natCast, Net.wt, netOf, if_true, hk0]
          exact hlt.2
        · refine ⟨hf1.1, ?_⟩
          simp only [hf1.2.1, hf1.2.2, Int.toNat_natCast, Net.wt, netOf, Bool.false_eq_true, if_false, hi0]
          exact hlt.1
      have hrks : [((k0, true) : Nat × Bool), (i0, false)].reverse.map (rkS L H) = [(v, frR lo hi u, false), (v, toR lo hi u, true)] := by
        simp [rkS, hf1.2.1, hf1.2.2, hf2.2.1, hf2.2.2]
      have HNEW : Hid (∀ s ∈ [((k0, true) : Nat × Bool), (i0, false)], s.1 < m ∧ (netOf n F T G P m L H U V).wt (L s.1).toNat (H s.1).toNat s.2 < 1000000000000) := hnew
      have HRK : Hid ([((k0, true) : Nat × Bool), (i0, false)].reverse.map (rkS L H) = [(v, frR lo hi u, false), (v, toR lo hi u, true)]) := hrks
      clear hnew hrks hf1 hf2 hlt hsum hsum' hsf hst hi0 hk0
      go_wp2_with fail
      have hN : Below wr.heap.size wr (wr.alloc (.cells #[.int .i64 (e : Int), .bool u] 104)) := (Below.refl _ _).alloc (Nat.le_refl _) _
      generalize (wr.alloc (.cells #[.int .i64 (e : Int), .bool u] 104)) = Wn at B1 x0 x1 x2 x3 x4 x5 x6 x7 hN ⊢
      refine (HH _ (hr.next B1.bel)).mono ?_
      rintro x w2 ⟨rfl, hb2⟩
      have B2 := B1.next hb2
      replace hN := below_next hN (Nat.le_refl _) hb2
      clear x0 x1 x2 x3 x4 x5 x6 x7 B1 HH
      have HB2 : Hid (G9 w w2 p ao n cap po k pcap eo m ecap uo ucap vo vcap ma me) := B2
      have HN : Hid (Below wr.heap.size wr w2) := hN
      have hns := hN.size
      have hX : Below w2.heap.size w2 (((w2.alloc (.cells #[.int .i64 (i0 : Int), .bool false] 104)).alloc (.cells #[.int .i64 (k0 : Int), .bool true] 104)).alloc (.cells #[.int .i64 (k0 : Int), .bool true, .int .i64 (i0 : Int), .bool false] 104)) := (((Below.refl _ _).alloc (Nat.le_refl _) _).alloc (by simp) _).alloc (by simp; omega) _
      have hXs : (((w2.alloc (.cells #[.int .i64 (i0 : Int), .bool false] 104)).alloc (.cells #[.int .i64 (k0 : Int), .bool true] 104)).alloc (.cells #[.int .i64 (k0 : Int), .bool true, .int .i64 (i0 : Int), .bool false] 104)).heap.size = w2.heap.size + 3 := by simp
      have HS : Hid (SRow (((w2.alloc (.cells #[.int .i64 (i0 : Int), .bool false] 104)).alloc (.cells #[.int .i64 (k0 : Int), .bool true] 104)).alloc (.cells #[.int .i64 (k0 : Int), .bool true, .int .i64 (i0 : Int), .bool false] 104)) b1 o1 l0) := by
        refine SRow.below (B := wr.heap.size) (l := l0) (fun j e' u' hj => K.row j e' u' ?_) (HN.out.trans (hX.mono hns)) hb1
        rw [List.getElem?_append_left (List.getElem?_eq_some_iff.1 hj).1]
        exact hj
      have HY : Hid (SRow (((w2.alloc (.cells #[.int .i64 (i0 : Int), .bool false] 104)).alloc (.cells #[.int .i64 (k0 : Int), .bool true] 104)).alloc (.cells #[.int .i64 (k0 : Int), .bool true, .int .i64 (i0 : Int), .bool false] 104)) (w2.heap.size + 1 + 1) 0 [(k0, true), (i0, false)]) := fun j e' u' hj => by
        match j, hj with
        | 0, hj => simp at hj; obtain ⟨rfl, rfl⟩ := hj; exact ⟨by simp [go_sem], by simp [go_sem]⟩
        | 1, hj => simp at hj; obtain ⟨rfl, rfl⟩ := hj; exact ⟨by simp [go_sem], by simp [go_sem]⟩
        | j + 2, hj => simp at hj
      have HX : Hid (Below w2.heap.size w2 (((w2.alloc (.cells #[.int .i64 (i0 : Int), .bool false] 104)).alloc (.cells #[.int .i64 (k0 : Int), .bool true] 104)).alloc (.cells #[.int .i64 (k0 : Int), .bool true, .int .i64 (i0 : Int), .bool false] 104))) := hX
      clear B2 hN hX
      go_wp2_with (at_builtin; refine wpList_appS rfl _ _ rfl 43 rfl b1 o1 l0.length l0 rfl rfl HS.out (w2.heap.size + 1 + 1) 2 k0 i0 true false rfl HY.out (by have := HL.out; have := hgk3.out; have := HG.out; omega) ?_; intro g' gc' w4 hS' hge hlt' hcap hgr)
      have hfar := below_of_gr hgr
      have hdone := Net.todo_some (st := l0.reverse.map (rkS L H)) hhf
      have hgo := hgk3.out
      rw [HR.out] at hgo
      have hmap : (l0 ++ [(k0, true), (i0, false)]).reverse.map (rkS L H) = (v, frR lo hi u, false) :: (v, toR lo hi u, true) :: l0.reverse.map (rkS L H) := by
        rw [List.reverse_append, List.map_append, HRK.out]
        rfl
      have hAll : Below wr.heap.size wr w4 := (HN.out.trans (HX.out.mono hns)).trans (hfar.mono (by omega))
      have K' : UnK w w4 p ao n cap F T G po k pcap P eo m ecap L H uo ucap U vo vcap V ma me (a :: Tot) (l0 ++ [(k0, true), (i0, false)]) g' 0 gc' path g gc := by
        refine ⟨(HB2.out.next HX.out).next hfar, K.own.next hAll, ?_, hS', by simpa using hcap, ?_, hlt', ?_, ?_⟩
        · rw [hmap, ← Net.rest_some hhf, ← HR.out]
          exact K.tot
        · have := K.glt
          omega
        · intro s hs
          rcases List.mem_append.1 hs with h | h
          · exact K.far s (by simp [h])
          · exact HNEW.out s h
        · have := K.glt
          have := hAll.size
          omega
      have HK : Hid (UnK w w4 p ao n cap F T G po k pcap P eo m ecap L H uo ucap U vo vcap V ma me (a :: Tot) (l0 ++ [(k0, true), (i0, false)]) g' 0 gc' path g gc) := K'
      have hdn : (netOf n F T G P m L H U V).todo ((l0 ++ [(k0, true), (i0, false)]).reverse.map (rkS L H)) < gk := by rw [hmap]; omega
      have HDN : Hid ((netOf n F T G P m L H U V).todo ((l0 ++ [(k0, true), (i0, false)]).reverse.map (rkS L H)) < gk) := hdn
      clear K' hdone hgo hmap hS' hfar hAll hdn
      go_wp2
      go_roundg ((netOf n F T G P m L H U V).todo ((l0 ++ [(k0, true), (i0, false)]).reverse.map (rkS L H)))
      case measure => exact HDN.out
      case rel => exact ⟨l0 ++ [(k0, true), (i0, false)], g', 0, gc', path, g, gc, by simp, rfl, HK.out, Nat.le_refl _, by have := HG.out; have := HDN.out; omega⟩

end Go.Proofs.YtokaechbmnbbiabGreat
