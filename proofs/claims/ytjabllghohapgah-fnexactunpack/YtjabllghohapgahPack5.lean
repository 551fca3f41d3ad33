/-
  Helpers, merged: UnJ, Cus, Rank, Mesh, Nbrs, Vis, TakeP, FillP, EList.
-/
import Derived.Test.YtjabllghohapgahPack4
import Derived.ArgAppend
import Derived.Deep.LoopGhost
import Derived.Test.YtjabllghohapgahPack2
import Derived.Test.YtjabllghohapgahPack1
import Derived.Sort.QuietIn
import Derived.Deep.AppendLies
/-
  The program's unpack: a way by a stack of steps.
-/
set_option linter.unusedVariables false
set_option linter.unusedSimpArgs false
namespace Go.Proofs.Ytjabllghohapgah
open Go.RowKit Go.Maps Go.Deep
attribute [local go_sem ↓] Go.wp_at_zero Go.wp_at_succ

/-- Steps behind a slice: the numbers of their edges, and whether they go up. -/
def SRow (w : World) (b o : Nat) (l : List (Nat × Bool)) : Prop := ∀ (j e : Nat) (u : Bool), l[j]? = some (e, u) → w.cell? ⟨b, o + j * 2, none⟩ = some (.int .i64 (e : Int)) ∧ w.cell? ⟨b, o + j * 2 + 1, none⟩ = some (.bool u)
theorem SRow.below {w w' : World} {b o B : Nat} {l : List (Nat × Bool)} (h : SRow w b o l) (hb : Below B w w') (hB : b < B) : SRow w' b o l := fun j e u hj => by
  obtain ⟨h1, h2⟩ := h j e u hj
  rw [hb.cell hB, hb.cell hB]
  exact ⟨h1, h2⟩
theorem SRow.grown {w w' : World} {b o g : Nat} {l : List (Nat × Bool)} (h : SRow w b o l) (hg : w.grownBy w' (some g)) (hb : b < w.heap.size) (hne : b ≠ g) : SRow w' b o l := fun j e u hj => by
  obtain ⟨h1, h2⟩ := h j e u hj
  have hbl := hg.block b hb (by simpa using hne)
  exact ⟨by simpa [World.cell?, hbl] using h1, by simpa [World.cell?, hbl] using h2⟩
def scells : List (Nat × Bool) → List Value
  | [] => []
  | s :: l => .int .i64 (s.1 : Int) :: .bool s.2 :: scells l
theorem scells_len : ∀ l, (scells l).length = l.length * 2
  | [] => rfl
  | s :: l => by simp [scells, scells_len l]; omega
theorem scells_app : ∀ l l', scells (l ++ l') = scells l ++ scells l'
  | [], _ => rfl
  | s :: l, l' => by simp [scells, scells_app l l']
theorem scells_even : ∀ (l : List (Nat × Bool)) (j : Nat), (scells l)[j * 2]? = l[j]?.map fun s => Value.int .i64 (s.1 : Int)
  | [], j => by simp [scells]
  | s :: l, 0 => by simp [scells]
  | s :: l, j + 1 => by
    rw [show (j + 1) * 2 = j * 2 + 1 + 1 by omega]
    simp only [scells, List.getElem?_cons_succ]
    exact scells_even l j
theorem scells_odd : ∀ (l : List (Nat × Bool)) (j : Nat), (scells l)[j * 2 + 1]? = l[j]?.map fun s => Value.bool s.2
  | [], j => by simp [scells]
  | s :: l, 0 => by simp [scells]
  | s :: l, j + 1 => by
    rw [show (j + 1) * 2 + 1 = j * 2 + 1 + 1 + 1 by omega]
    simp only [scells, List.getElem?_cons_succ]
    exact scells_odd l j
theorem SRow.olds {w : World} {b o : Nat} {l : List (Nat × Bool)} (h : SRow w b o l) : ∀ j u, (scells l)[j]? = some u → w.cell? ⟨b, o + j, none⟩ = some u := fun j u hj => by
  rcases Nat.mod_two_eq_zero_or_one j with he | he
  · obtain ⟨i, rfl⟩ : ∃ i, j = i * 2 := ⟨j / 2, by omega⟩
    rw [scells_even] at hj
    obtain ⟨⟨e, v⟩, h1, h2⟩ := Option.map_eq_some_iff.1 hj
    rw [(h i e v h1).1, ← h2]
  · obtain ⟨i, rfl⟩ : ∃ i, j = i * 2 + 1 := ⟨j / 2, by omega⟩
    rw [scells_odd] at hj
    obtain ⟨⟨e, v⟩, h1, h2⟩ := Option.map_eq_some_iff.1 hj
    rw [← Nat.add_assoc, (h i e v h1).2, ← h2]
theorem srow_of {w : World} {b o : Nat} {l : List (Nat × Bool)} (h : ∀ j u, (scells l)[j]? = some u → w.cell? ⟨b, o + j, none⟩ = some u) : SRow w b o l := fun j e u hj => by
  refine ⟨h (j * 2) _ (by rw [scells_even, hj]; rfl), ?_⟩
  have := h (j * 2 + 1) _ (by rw [scells_odd, hj]; rfl)
  rw [← Nat.add_assoc] at this
  exact this
theorem SRow.take {w : World} {b o n : Nat} {l : List (Nat × Bool)} (h : SRow w b o l) : SRow w b o (l.take n) := fun j e u hj => by
  rw [List.getElem?_take] at hj
  split at hj
  · exact h j e u hj
  · cases hj
theorem Try.infoStep : (Try.prog.info? 116).map (fun i => (i.zero, i.size, i.bytes)) = some (some (.agg #[.int .i64 0, .bool false]), 2, 16) := by kernel_rfl
/-- append(stack, a, b) where the stack has no room. -/
theorem wpList_appS {w : World} {ops : Array Oper} {rest : List Oper} {oo : Oper} {a : Act} {Q : Exit → Act → World → Prop} (hgd : oo.guard = none) (s x : Operand)
    (ho : oo.op = .call { callee := .builtin .append, args := #[s, x], argTypes := #[119, 119] }) (d : Nat) (hd : oo.dst = some d) (b o n : Nat) (l : List (Nat × Bool)) (hn : l.length = n) (hs : a.eval s = .slice (some ⟨b, o, none⟩) n n) (hS : SRow w b o l)
    (y c e1 e2 : Nat) (u1 u2 : Bool) (hx : a.eval x = .slice (some ⟨y, 0, none⟩) 2 c) (hY : SRow w y 0 [(e1, u1), (e2, u2)]) (hk : n ≤ 4000000000)
    (h : ∀ g gc w', SRow w' g 0 (l ++ [(e1, u1), (e2, u2)]) → w.heap.size ≤ g → g < w'.heap.size → n + 2 ≤ gc → w.grownBy w' none → wpList Try.prog ops Q rest (a.put (some d) (.slice (some ⟨g, 0, none⟩) (n + 2) gc)) w') : wpList Try.prog ops Q (oo :: rest) a w := by
  obtain ⟨i, hi, hz0, hz1, hz2⟩ := info_parts Try.infoStep
  subst hn
  refine wpList_append_grows w hgd s x 119 ho 116 i _ 2 16 Try.underlying119 hi hz0 hz1 hz2 rfl (by omega) (some ⟨b, o, none⟩) l.length l.length (scells l) hs (fun h => by cases h) (scells_len l) ?_ ⟨y, 0, none⟩ 2 c (scells [(e1, u1), (e2, u2)]) hx rfl ?_ ?_ (by omega) (by unfold maxLen; omega) (by omega) ?_
  · intro b' e j u hu
    cases e
    have : (⟨b, o, none⟩ : Addr).add j = ⟨b, o + j, none⟩ := by unfold Addr.add; split <;> simp_all
    rw [this]
    exact hS.olds j u hu
  · intro j u hu
    have : (⟨y, 0, none⟩ : Addr).add j = ⟨y, 0 + j, none⟩ := by unfold Addr.add; split <;> simp_all
    rw [this]
    exact hY.olds j u hu
  · intro u hu
    simp [scells] at hu
    rcases hu with rfl | rfl | rfl | rfl <;> rfl
  · intro v' w' hown hgr
    rw [hd]
    obtain ⟨hlen, ⟨rfl, h0⟩ | ⟨g, gc, cur, rfl, hg, hblk, hnc, _, hsz, ht⟩⟩ := hown
    · omega
    · refine h g gc w' (srow_of fun j u hu => ?_) hg (by have := (Array.getElem?_eq_some_iff.1 hblk).1; exact this) hnc hgr
      rw [scells_app, ← ht, List.getElem?_take] at hu
      split at hu
      · have hc : cur[j]? = some u := by simpa using hu
        simp [World.cell?, hblk, hc]
      · cases hu
theorem wpList_appL {w : World} {ops : Array Oper} {rest : List Oper} {o : Oper} {a : Act} {Q : Exit → Act → World → Prop} (hgd : o.guard = none) (s x : Operand)
    (ho : o.op = .call { callee := .builtin .append, args := #[s, x], argTypes := #[22, 22] }) (d : Nat) (hd : o.dst = some d) (base g gc : Nat) (l : List Int) (hs : a.eval s = .slice (some ⟨g, 0, none⟩) l.length gc) (hown : LOwn w base (some ⟨g, 0, none⟩) gc l) (b c : Nat) (v : Int) (hx : a.eval x = .slice (some ⟨b, 0, none⟩) 1 c)
    (h0 : w.cell? ⟨b, 0, none⟩ = some (.int .i64 v)) (hk : l.length ≤ 1000000000) (hbase : base ≤ w.heap.size)
    (h : ∀ g' gc' w', LOwn w' base (some ⟨g', 0, none⟩) gc' (l ++ [v]) → w.grownBy w' (some g) → (g' = g ∨ g' = w.heap.size) → wpList Try.prog ops Q rest (a.put (some d) (.slice (some ⟨g', 0, none⟩) (l.length + 1) gc')) w') : wpList Try.prog ops Q (o :: rest) a w :=
  wpList_plain hgd fun K hK => wp_appL s x ho d hd base gc (some ⟨g, 0, none⟩) l [v] hs hown b 0 1 c rfl hx (fun j u hu => by
    match j, hu with
    | 0, hu => simp at hu; subst hu; exact h0
    | j + 1, hu => simp at hu) (by omega) hk (by omega) hbase fun g' gc' w' h1 h2 h3 => hK _ _ (h g' gc' w' h1 h2 (h3.imp (fun h3 => by simpa [Value.ownBlock] using h3.symm) id))
/-- The ranks of a step. -/
def rkS (L H : Nat → Int) (s : Nat × Bool) : Nat × Nat × Bool := ((L s.1).toNat, (H s.1).toNat, s.2)
/-- The box of a guide, in a later world. -/
structure G9 (w W : World) (p : Int) (ao : Option Addr) (n cap : Nat) (po : Option Addr) (k pcap : Nat) (eo : Option Addr) (m ecap : Nat) (uo : Option Addr) (ucap : Nat) (vo : Option Addr) (vcap : Nat) (ma me : Nat) : Prop where
  bel : Below w.heap.size w W
  c0 : W.cell? ⟨w.heap.size, 0, none⟩ = some (.int .i64 p)
  c1 : W.cell? ⟨w.heap.size, 1, none⟩ = some (.slice ao n cap)
  c2 : W.cell? ⟨w.heap.size, 2, none⟩ = some (.slice po k pcap)
  c3 : W.cell? ⟨w.heap.size, 3, none⟩ = some (.slice eo m ecap)
  c4 : W.cell? ⟨w.heap.size, 4, none⟩ = some (.slice uo m ucap)
  c5 : W.cell? ⟨w.heap.size, 5, none⟩ = some (.slice vo m vcap)
  c6 : W.cell? ⟨w.heap.size, 6, none⟩ = some (.map (some ma))
  c7 : W.cell? ⟨w.heap.size, 7, none⟩ = some (.map (some me))
  sz : w.heap.size + 1 ≤ W.heap.size
theorem g9_new (w : World) {p : Int} {ao : Option Addr} {n cap : Nat} {po : Option Addr} {k pcap : Nat} {eo : Option Addr} {m ecap : Nat} {uo : Option Addr} {ucap : Nat} {vo : Option Addr} {vcap : Nat} {ma me : Nat} : G9 w (w.alloc (.cells #[.int .i64 p, .slice ao n cap, .slice po k pcap, .slice eo m ecap, .slice uo m ucap, .slice vo m vcap, .map (some ma), .map (some me)] 111)) p ao n cap po k pcap eo m ecap uo ucap vo vcap ma me :=
  ⟨(Below.refl _ _).alloc (Nat.le_refl _) _, by simp [go_sem], by simp [go_sem], by simp [go_sem], by simp [go_sem], by simp [go_sem], by simp [go_sem], by simp [go_sem], by simp [go_sem], by simp⟩
theorem G9.far {w W W' : World} {p : Int} {ao : Option Addr} {n cap : Nat} {po : Option Addr} {k pcap : Nat} {eo : Option Addr} {m ecap : Nat} {uo : Option Addr} {ucap : Nat} {vo : Option Addr} {vcap : Nat} {ma me : Nat} (h : G9 w W p ao n cap po k pcap eo m ecap uo ucap vo vcap ma me) (hb : Below (w.heap.size + 1) W W') : G9 w W' p ao n cap po k pcap eo m ecap uo ucap vo vcap ma me :=
  ⟨h.bel.trans (hb.mono (by omega)), by rw [hb.cell (by simp)]; exact h.c0, by rw [hb.cell (by simp)]; exact h.c1, by rw [hb.cell (by simp)]; exact h.c2, by rw [hb.cell (by simp)]; exact h.c3, by rw [hb.cell (by simp)]; exact h.c4, by rw [hb.cell (by simp)]; exact h.c5, by rw [hb.cell (by simp)]; exact h.c6, by rw [hb.cell (by simp)]; exact h.c7, Nat.le_trans h.sz hb.size⟩
theorem G9.next {w W W' : World} {p : Int} {ao : Option Addr} {n cap : Nat} {po : Option Addr} {k pcap : Nat} {eo : Option Addr} {m ecap : Nat} {uo : Option Addr} {ucap : Nat} {vo : Option Addr} {vcap : Nat} {ma me : Nat} (h : G9 w W p ao n cap po k pcap eo m ecap uo ucap vo vcap ma me) (hb : Below W.heap.size W W') : G9 w W' p ao n cap po k pcap eo m ecap uo ucap vo vcap ma me := h.far (hb.mono h.sz)
theorem lown_lit1 (w : World) {base : Nat} (a : Int) (hb : base ≤ w.heap.size) : LOwn (w.alloc (.cells #[.int .i64 a] 2)) base (some ⟨w.heap.size, 0, none⟩) 1 [a] := by
  have := World.ownsRow_lit (base := base) (e := 2) (size := 1) w #[.int .i64 a] 1 hb (by unfold maxLen; omega) rfl
  simpa [LOwn, lcells] using this

/-- Where a way that is unpacked stands: what is to come of it, the stack, the path. -/
structure UnK (w W : World) (p : Int) (ao : Option Addr) (n cap : Nat) (F T G : Nat → Int) (po : Option Addr) (k pcap : Nat) (P : Nat → Int) (eo : Option Addr) (m ecap : Nat) (L H : Nat → Int) (uo : Option Addr) (ucap : Nat) (U : Nat → Int) (vo : Option Addr) (vcap : Nat) (V : Nat → Int) (ma me : Nat) (tot : List Int) (l : List (Nat × Bool)) (b o c : Nat) (path : List Int) (g gc : Nat) : Prop where
  box : G9 w W p ao n cap po k pcap eo m ecap uo ucap vo vcap ma me
  own : LOwn W (w.heap.size + 1) (some ⟨g, 0, none⟩) gc path
  tot : path ++ (netOf n F T G P m L H U V).rest (l.reverse.map (rkS L H)) = tot
  row : SRow W b o l
  lc : l.length ≤ c
  ne : b ≠ g
  lt : b < W.heap.size
  far : ∀ s ∈ l, s.1 < m ∧ (netOf n F T G P m L H U V).wt (L s.1).toNat (H s.1).toNat s.2 < 1000000000000
  glt : g < W.heap.size

theorem below_of_gr {w w' : World} (h : w.grownBy w' none) : Below w.heap.size w w' := ⟨h.os, h.tape, h.output, h.size, fun k hk => h.block k hk (by simp)⟩
theorem Net.todo_le (x : Net) : ∀ st, x.todo st ≤ 2 * (x.rest st).length
  | [] => by simp [Net.todo]
  | s :: st => by
    have := Net.todo_le x st
    simp only [Net.todo, Net.rest, List.length_append]
    omega
theorem Net.len_le (x : Net) : ∀ st : List (Nat × Nat × Bool), st.length ≤ x.todo st
  | [] => by simp
  | s :: st => by
    have := Net.len_le x st
    have h1 := (x.wy_len s.1 s.2.1 s.2.2).1
    simp only [Net.todo, List.length_cons]
    omega

set_option maxRecDepth 100000 in
set_option maxHeartbeats 400000 in
theorem unpack_any (p : Int) (ao : Option Addr) (n cap : Nat) (F T G : Nat → Int) (po : Option Addr) (k pcap : Nat) (P : Nat → Int) (eo : Option Addr) (m ecap : Nat) (L H : Nat → Int) (uo : Option Addr) (ucap : Nat) (U : Nat → Int) (vo : Option Addr) (vcap : Nat) (V : Nat → Int) (ma me : Nat) (D : Gd p n F T G k P m L H U V) (a : Int) (b o c : Nat) (l : List (Nat × Bool)) (hT : ((netOf n F T G P m L H U V).rest (l.reverse.map (rkS L H))).length ≤ 900000000) (hs : ∀ s ∈ l, s.1 < m ∧ (netOf n F T G P m L H U V).wt (L s.1).toNat (H s.1).toNat s.2 < 1000000000000) (w : World) (hr : GOn w ao n F T G po k P eo m L H uo U vo V ma me) (hS : SRow w b o l) (hbw : b < w.heap.size) (hlc : l.length ≤ c) :
    Calls Try.prog 85 #[(.agg #[.int .i64 p, .slice ao n cap, .slice po k pcap, .slice eo m ecap, .slice uo m ucap, .slice vo m vcap, .map (some ma), .map (some me)]), .int .i64 a, .slice (some ⟨b, o, none⟩) l.length c] w fun x w' => ∃ g gc, x = .returned (.slice (some ⟨g, 0, none⟩) ((netOf n F T G P m L H U V).rest (l.reverse.map (rkS L H))).length.succ gc) ∧ LOwn w' w.heap.size (some ⟨g, 0, none⟩) gc (a :: (netOf n F T G P m L H U V).rest (l.reverse.map (rkS L H))) ∧ Below w.heap.size w w' := by
  have B0 := g9_new w (p := p) (ao := ao) (n := n) (cap := cap) (po := po) (k := k) (pcap := pcap) (eo := eo) (m := m) (ecap := ecap) (uo := uo) (ucap := ucap) (vo := vo) (vcap := vcap) (ma := ma) (me := me)
  have O0 := lown_lit1 (w.alloc (.cells #[.int .i64 p, .slice ao n cap, .slice po k pcap, .slice eo m ecap, .slice uo m ucap, .slice vo m vcap, .map (some ma), .map (some me)] 111)) (base := w.heap.size + 1) a (by simp)
  simp only [World.size_alloc] at O0
  replace B0 := B0.next ((Below.refl _ _).alloc (Nat.le_refl _) (.cells #[.int .i64 a] 2))
  have hTd := Net.todo_le (netOf n F T G P m L H U V) (l.reverse.map (rkS L H))
  generalize hTot : (netOf n F T G P m L H U V).rest (l.reverse.map (rkS L H)) = Tot at hT hTd
  have hsz0 : w.heap.size + 1 < ((w.alloc (.cells #[.int .i64 p, .slice ao n cap, .slice po k pcap, .slice eo m ecap, .slice uo m ucap, .slice vo m vcap, .map (some ma), .map (some me)] 111)).alloc (.cells #[.int .i64 a] 2)).heap.size := by simp
  have hS0 := hS.below B0.bel hbw
  have K0 : UnK w ((w.alloc (.cells #[.int .i64 p, .slice ao n cap, .slice po k pcap, .slice eo m ecap, .slice uo m ucap, .slice vo m vcap, .map (some ma), .map (some me)] 111)).alloc (.cells #[.int .i64 a] 2)) p ao n cap F T G po k pcap P eo m ecap L H uo ucap U vo vcap V ma me (a :: Tot) l b o c [a] (w.heap.size + 1) 1 := ⟨B0, O0, by rw [hTot]; rfl, hS0, hlc, by omega, by have := B0.sz; omega, hs, hsz0⟩
  clear O0 B0 hsz0 hS0 hTot
  go_enter Try.func85, Try.ntmps85
  go_wp2
  generalize ((w.alloc (.cells #[.int .i64 p, .slice ao n cap, .slice po k pcap, .slice eo m ecap, .slice uo m ucap, .slice vo m vcap, .map (some ma), .map (some me)] 111)).alloc (.cells #[.int .i64 a] 2)) = W at K0 ⊢
  go_loopg [2, 7] 1800000000 (fun gk x y wr => ∃ l b o c path g gc, x = .slice (some ⟨b, o, none⟩) (l.length) c ∧ y = .slice (some ⟨g, 0, none⟩) (path.length) gc ∧ UnK w wr p ao n cap F T G po k pcap P eo m ecap L H uo ucap U vo vcap V ma me (a :: Tot) l b o c path g gc ∧ (netOf n F T G P m L H U V).todo (l.reverse.map (rkS L H)) ≤ gk ∧ gk ≤ 1800000000)
  case atStart => exact ⟨l, b, o, c, [a], _, _, rfl, rfl, K0, by omega, Nat.le_refl _⟩
  case round =>
    clear K0 hS hbw hlc hs hTd
    obtain ⟨l1, b1, o1, c1, path, g, gc, rfl, rfl, K, hgk, hgk2⟩ := hrel
    have hll := Net.len_le (netOf n F T G P m L H U V) (l1.reverse.map (rkS L H))
    simp only [List.length_map, List.length_reverse] at hll
    have hpl : path.length ≤ 900000001 := by
      have := congrArg List.length K.tot
      simp only [List.length_append, List.length_cons] at this
      omega
    have hgk3 : Hid ((netOf n F T G P m L H U V).todo (l1.reverse.map (rkS L H)) ≤ gk) := hgk
    have hcc : l1 = [] ∨ ∃ l0 e u, l1 = l0 ++ [((e, u) : Nat × Bool)] := by
      rcases List.eq_nil_or_concat l1 with h | ⟨l0, ⟨e, u⟩, h⟩
      · exact Or.inl h
      · exact Or.inr ⟨l0, e, u, by rw [h, List.concat_eq_append]⟩
    rcases hcc with rfl | ⟨l0, e, u, rfl⟩
    · have hp := K.tot
      simp only [List.reverse_nil, List.map_nil, Net.rest, List.append_nil] at hp
      have HP : Hid (path = a :: Tot) := hp
      clear hp hgk hll
      go_wp2
      go_ret
      refine ⟨g, gc, by rw [HP.out]; rfl, ?_, K.box.bel⟩
      have := K.own.from (base' := w.heap.size) (by omega)
      rw [HP.out] at this
      exact this
    have hlen : (l0 ++ [(e, u)]).length = l0.length + 1 := by simp
    obtain ⟨r0, r1⟩ := K.row l0.length e u (by simp)
    obtain ⟨hem, hwt⟩ := K.far (e, u) (by simp)
    have hlc := K.lc
    rw [hlen] at hll hlc ⊢
    have hb1 := K.lt
    have l1' : (0 : Int) < (l0.length : Int) + 1 := by omega
    have l2 : (0 : Int) ≤ (l0.length : Int) := by omega
    have l3 : (l0.length : Int) < (l0.length : Int) + 1 := by omega
    have l5 : wrap64 (l0.length : Int) = (l0.length : Int) := by unfold wrap64; omega
    have HG : Hid (gk ≤ 1800000000) := hgk2
    have HL : Hid (l0.length + 1 ≤ (netOf n F T G P m L H U V).todo ((l0 ++ [(e, u)]).reverse.map (rkS L H))) := hll
    have HP : Hid (path.length ≤ 900000001) := hpl
    clear hgk2 hll hpl hT
    have HTw : Hid ((netOf n F T G P m L H U V).wt (L e).toNat (H e).toNat u < 1000000000000) := hwt
    have B1 := K.box.next ((Below.refl _ _).alloc (Nat.le_refl _) (.cells #[.int .i64 (e : Int), .bool u] 116))
    have x0 := B1.c0
    have x1 := B1.c1
    have x2 := B1.c2
    have x3 := B1.c3
    have x4 := B1.c4
    have x5 := B1.c5
    have x6 := B1.c6
    have x7 := B1.c7
    have hbx := K.box.sz
    clear hwt hgk hlen
    obtain ⟨q, hq⟩ := D.q
    have hed := D.ed e hem
    obtain ⟨lo, hlo⟩ : ∃ lo : Nat, L e = (lo : Int) := ⟨(L e).toNat, by omega⟩
    obtain ⟨hi, hhi⟩ : ∃ hi : Nat, H e = (hi : Int) := ⟨(H e).toNat, by omega⟩
    have hfe : fnd L H lo hi m = e := fnd_is hq hem hlo hhi
    have HT1 : (netOf n F T G P m L H U V).wt lo hi u < 1000000000000 := by have := HTw.out; rw [hlo, hhi] at this; simpa using this
    have HH := fun W h => halves_any p ao n cap F T G po k pcap P eo m ecap L H uo ucap U vo vcap V ma me D lo hi u e hem hlo hhi hfe HT1 W h
    have hrk : rkS L H (e, u) = (lo, hi, u) := by simp [rkS, hlo, hhi]
    have hrest : (l0 ++ [(e, u)]).reverse.map (rkS L H) = (lo, hi, u) :: l0.reverse.map (rkS L H) := by simp [hrk]
    have HR : Hid ((l0 ++ [(e, u)]).reverse.map (rkS L H) = (lo, hi, u) :: l0.reverse.map (rkS L H)) := hrest
    have HD : Hid (Gd p n F T G k P m L H U V) := D
    have HED : Hid (L e = (lo : Int) ∧ H e = (hi : Int) ∧ 0 ≤ L e ∧ L e < H e ∧ H e < k ∧ edB q L H m = true ∧ fnd L H lo hi m = e ∧ (netOf n F T G P m L H U V).wt lo hi u < 1000000000000) := ⟨hlo, hhi, hed.1, hed.2.1, hed.2.2, hq, hfe, HT1⟩
    clear hrest hrk HT1 hfe hed hq hlo hhi D HTw
    cases hhf : (netOf n F T G P m L H U V).half lo hi u with
    | none =>
      rw [hhf] at HH
      simp only [hlv] at HH
      go_wp2_with fail
      have hN : Below wr.heap.size wr (wr.alloc (.cells #[.int .i64 (e : Int), .bool u] 116)) := (Below.refl _ _).alloc (Nat.le_refl _) _
      have y0 : (wr.alloc (.cells #[.int .i64 (e : Int), .bool u] 116)).cell? ⟨wr.heap.size, 0, none⟩ = some (.int .i64 (e : Int)) := by simp [go_sem]
      have y1 : (wr.alloc (.cells #[.int .i64 (e : Int), .bool u] 116)).cell? ⟨wr.heap.size, 1, none⟩ = some (.bool u) := by simp [go_sem]
      generalize (wr.alloc (.cells #[.int .i64 (e : Int), .bool u] 116)) = Wn at B1 x0 x1 x2 x3 x4 x5 x6 x7 hN y0 y1 ⊢
      refine (HH _ (hr.next B1.bel)).mono ?_
      rintro x w2 ⟨rfl, hb2⟩
      have hb2' := hb2.trans (((Below.refl _ _).alloc hb2.size (.cells #[.int .i64 0, .bool false] 116)).alloc (by have := hb2.size; simp; omega) (.cells #[.int .i64 0, .bool false] 116))
      have B3 := B1.next hb2'
      replace hN := below_next hN (Nat.le_refl _) hb2'
      replace y0 := keep_cell hb2' (Nat.le_refl _) y0
      replace y1 := keep_cell hb2' (Nat.le_refl _) y1
      clear x0 x1 x2 x3 x4 x5 x6 x7 B1
      have x0 := B3.c0
      have x1 := B3.c1
      have x2 := B3.c2
      have x3 := B3.c3
      have x4 := B3.c4
      have x5 := B3.c5
      have x6 := B3.c6
      have x7 := B3.c7
      go_wp2_with fail
      generalize ((w2.alloc (.cells #[.int .i64 0, .bool false] 116)).alloc (.cells #[.int .i64 0, .bool false] 116)) = Wm at B3 x0 x1 x2 x3 x4 x5 x6 x7 hN y0 y1 ⊢
      refine (ranks_any _ _ _ _ _ _ _ _ _ _ _ _ _ _ _ _ L H e u hem HD.out.hm _ (hr.next B3.bel).rows.eds).mono ?_
      rintro x w3 ⟨rfl, hb3⟩
      have B4 := B3.next hb3
      replace hN := below_next hN (Nat.le_refl _) hb3
      clear x0 x1 x2 x3 x4 x5 x6 x7 B3 y0 y1
      have ht : (if u = true then H e else L e) = ((toR lo hi u : Nat) : Int) := by
        have := HED.out
        rw [this.1, this.2.1]
        cases u <;> rfl
      have hf : (if u = true then L e else H e) = ((frR lo hi u : Nat) : Int) := by
        have := HED.out
        rw [this.1, this.2.1]
        cases u <;> rfl
      rw [hf, ht]
      have htk : toR lo hi u < k := by
        have := HED.out
        unfold toR
        split <;> omega
      obtain ⟨bo, oo, hpo, d0⟩ := (hr.next B4.bel).rows.ord (toR lo hi u) htk
      have x2 := B4.c2
      rw [hpo] at x2
      have l7 : (0 : Int) ≤ ((toR lo hi u : Nat) : Int) := by omega
      have l8 : ((toR lo hi u : Nat) : Int) < (k : Int) := by omega
      have hsw := hN.size
      have HB4 : Hid (G9 w w3 p ao n cap po k pcap eo m ecap uo ucap vo vcap ma me) := B4
      have HN : Hid (Below wr.heap.size wr w3) := hN
      have HPO : Hid (po = some ⟨bo, oo, none⟩) := hpo
      clear ht hf HH hpo
      go_wp2_with (at_builtin; refine wpList_appL rfl _ _ rfl 58 rfl (w.heap.size + 1) g gc path rfl ((K.own.next HN.out).next ((Below.refl _ _).alloc (Nat.le_refl _) _)) w3.heap.size 1 (P (toR lo hi u)) rfl (by simp [go_sem]) (by have := HP.out; omega) (by have := HB4.out.sz; simp; omega) ?_; intro g' gc' w4 hO hgr hat)
      have hg1 := (K.own.at rfl).1
      have hfar := gr_below hgr (B := w.heap.size + 1) hg1 (by have := HB4.out.sz; simp; omega)
      have hdone := Net.todo_none (st := l0.reverse.map (rkS L H)) hhf
      have hgo := hgk3.out
      rw [HR.out] at hgo
      have hXs : wr.heap.size ≤ (w3.alloc (.cells #[.int .i64 (P (toR lo hi u))] 2)).heap.size := by simp; omega
      have K' : UnK w w4 p ao n cap F T G po k pcap P eo m ecap L H uo ucap U vo vcap V ma me (a :: Tot) l0 b1 o1 l0.length (path ++ [P (toR lo hi u)]) g' gc' := by
        refine ⟨(HB4.out.next ((Below.refl _ _).alloc (Nat.le_refl _) _)).far hfar, hO, ?_, ?_, Nat.le_refl _, ?_, ?_, fun s hs => K.far s (by simp [hs]), (hO.at rfl).2⟩
        · rw [← K.tot, HR.out, Net.rest_none hhf]
          simp [netOf]
        · refine SRow.grown (SRow.below (l := l0) (fun j e' u' hj => K.row j e' u' ?_) (HN.out.trans ((Below.refl _ _).alloc hN.size _)) hb1) hgr (by omega) K.ne
          rw [List.getElem?_append_left (List.getElem?_eq_some_iff.1 hj).1]
          exact hj
        · rcases hat with rfl | rfl
          · exact K.ne
          · omega
        · have := hgr.size
          omega
      go_wp2
      go_roundg ((netOf n F T G P m L H U V).todo (l0.reverse.map (rkS L H)))
      case measure => omega
      case rel => exact ⟨l0, b1, o1, l0.length, path ++ [P (toR lo hi u)], g', gc', rfl, by simp, K', Nat.le_refl _, by have := HG.out; omega⟩
    | some v =>
      rw [hhf] at HH
      simp only [hlv] at HH
      have hfit := Net.half_fit hhf
      have hvlt := Net.half_lt hhf
      simp only [Net.fit, netOf, Bool.and_eq_true, decide_eq_true_eq] at hfit
      obtain ⟨⟨hsf, hst⟩, hsum⟩ := hfit
      have hf1 := fnd_at m (hsB_iff.1 hsf)
      have hf2 := fnd_at m (hsB_iff.1 hst)
      obtain ⟨i0, hi0⟩ : ∃ i0, fnd L H v (frR lo hi u) m = i0 := ⟨_, rfl⟩
      obtain ⟨k0, hk0⟩ : ∃ k0, fnd L H v (toR lo hi u) m = k0 := ⟨_, rfl⟩
      have hsum' := of_decide_eq_true hsum
      have hlt := addF_lt hsum' (by simpa [netOf] using HED.out.2.2.2.2.2.2.2) (HD.out.dn _ hf1.1).1 (HD.out.up _ hf2.1).1
      rw [hi0] at hf1 hlt HH
      rw [hk0] at hf2 hlt HH
      have hnew : ∀ s ∈ [((k0, true) : Nat × Bool), (i0, false)], s.1 < m ∧ (netOf n F T G P m L H U V).wt (L s.1).toNat (H s.1).toNat s.2 < 1000000000000 := by
        intro s hs
        simp only [List.mem_cons, List.mem_singleton, List.not_mem_nil, or_false] at hs
        rcases hs with rfl | rfl
        · refine ⟨hf2.1, ?_⟩
          simp only [hf2.2.1, hf2.2.2, Int.toNat_natCast, Net.wt, netOf, if_true, hk0]
          exact hlt.2
        · refine ⟨hf1.1, ?_⟩
          simp only [hf1.2.1, hf1.2.2, Int.toNat_natCast, Net.wt, netOf, Bool.false_eq_true, if_false, hi0]
          exact hlt.1
      have hrks : [((k0, true) : Nat × Bool), (i0, false)].reverse.map (rkS L H) = [(v, frR lo hi u, false), (v, toR lo hi u, true)] := by
        simp [rkS, hf1.2.1, hf1.2.2, hf2.2.1, hf2.2.2]
      have HNEW : Hid (∀ s ∈ [((k0, true) : Nat × Bool), (i0, false)], s.1 < m ∧ (netOf n F T G P m L H U V).wt (L s.1).toNat (H s.1).toNat s.2 < 1000000000000) := hnew
      have HRK : Hid ([((k0, true) : Nat × Bool), (i0, false)].reverse.map (rkS L H) = [(v, frR lo hi u, false), (v, toR lo hi u, true)]) := hrks
      clear hnew hrks hf1 hf2 hlt hsum hsum' hsf hst hi0 hk0
      go_wp2_with fail
      have hN : Below wr.heap.size wr (wr.alloc (.cells #[.int .i64 (e : Int), .bool u] 116)) := (Below.refl _ _).alloc (Nat.le_refl _) _
      generalize (wr.alloc (.cells #[.int .i64 (e : Int), .bool u] 116)) = Wn at B1 x0 x1 x2 x3 x4 x5 x6 x7 hN ⊢
      refine (HH _ (hr.next B1.bel)).mono ?_
      rintro x w2 ⟨rfl, hb2⟩
      have B2 := B1.next hb2
      replace hN := below_next hN (Nat.le_refl _) hb2
      clear x0 x1 x2 x3 x4 x5 x6 x7 B1 HH
      have HB2 : Hid (G9 w w2 p ao n cap po k pcap eo m ecap uo ucap vo vcap ma me) := B2
      have HN : Hid (Below wr.heap.size wr w2) := hN
      have hns := hN.size
      have hX : Below w2.heap.size w2 (((w2.alloc (.cells #[.int .i64 (i0 : Int), .bool false] 116)).alloc (.cells #[.int .i64 (k0 : Int), .bool true] 116)).alloc (.cells #[.int .i64 (k0 : Int), .bool true, .int .i64 (i0 : Int), .bool false] 116)) := (((Below.refl _ _).alloc (Nat.le_refl _) _).alloc (by simp) _).alloc (by simp; omega) _
      have hXs : (((w2.alloc (.cells #[.int .i64 (i0 : Int), .bool false] 116)).alloc (.cells #[.int .i64 (k0 : Int), .bool true] 116)).alloc (.cells #[.int .i64 (k0 : Int), .bool true, .int .i64 (i0 : Int), .bool false] 116)).heap.size = w2.heap.size + 3 := by simp
      have HS : Hid (SRow (((w2.alloc (.cells #[.int .i64 (i0 : Int), .bool false] 116)).alloc (.cells #[.int .i64 (k0 : Int), .bool true] 116)).alloc (.cells #[.int .i64 (k0 : Int), .bool true, .int .i64 (i0 : Int), .bool false] 116)) b1 o1 l0) := by
        refine SRow.below (B := wr.heap.size) (l := l0) (fun j e' u' hj => K.row j e' u' ?_) (HN.out.trans (hX.mono hns)) hb1
        rw [List.getElem?_append_left (List.getElem?_eq_some_iff.1 hj).1]
        exact hj
      have HY : Hid (SRow (((w2.alloc (.cells #[.int .i64 (i0 : Int), .bool false] 116)).alloc (.cells #[.int .i64 (k0 : Int), .bool true] 116)).alloc (.cells #[.int .i64 (k0 : Int), .bool true, .int .i64 (i0 : Int), .bool false] 116)) (w2.heap.size + 1 + 1) 0 [(k0, true), (i0, false)]) := fun j e' u' hj => by
        match j, hj with
        | 0, hj => simp at hj; obtain ⟨rfl, rfl⟩ := hj; exact ⟨by simp [go_sem], by simp [go_sem]⟩
        | 1, hj => simp at hj; obtain ⟨rfl, rfl⟩ := hj; exact ⟨by simp [go_sem], by simp [go_sem]⟩
        | j + 2, hj => simp at hj
      have HX : Hid (Below w2.heap.size w2 (((w2.alloc (.cells #[.int .i64 (i0 : Int), .bool false] 116)).alloc (.cells #[.int .i64 (k0 : Int), .bool true] 116)).alloc (.cells #[.int .i64 (k0 : Int), .bool true, .int .i64 (i0 : Int), .bool false] 116))) := hX
      clear B2 hN hX
      go_wp2_with (at_builtin; refine wpList_appS rfl _ _ rfl 43 rfl b1 o1 l0.length l0 rfl rfl HS.out (w2.heap.size + 1 + 1) 2 k0 i0 true false rfl HY.out (by have := HL.out; have := hgk3.out; have := HG.out; omega) ?_; intro g' gc' w4 hS' hge hlt' hcap hgr)
      have hfar := below_of_gr hgr
      have hdone := Net.todo_some (st := l0.reverse.map (rkS L H)) hhf
      have hgo := hgk3.out
      rw [HR.out] at hgo
      have hmap : (l0 ++ [(k0, true), (i0, false)]).reverse.map (rkS L H) = (v, frR lo hi u, false) :: (v, toR lo hi u, true) :: l0.reverse.map (rkS L H) := by
        rw [List.reverse_append, List.map_append, HRK.out]
        rfl
      have hAll : Below wr.heap.size wr w4 := (HN.out.trans (HX.out.mono hns)).trans (hfar.mono (by omega))
      have K' : UnK w w4 p ao n cap F T G po k pcap P eo m ecap L H uo ucap U vo vcap V ma me (a :: Tot) (l0 ++ [(k0, true), (i0, false)]) g' 0 gc' path g gc := by
        refine ⟨(HB2.out.next HX.out).next hfar, K.own.next hAll, ?_, hS', by simpa using hcap, ?_, hlt', ?_, ?_⟩
        · rw [hmap, ← Net.rest_some hhf, ← HR.out]
          exact K.tot
        · have := K.glt
          omega
        · intro s hs
          rcases List.mem_append.1 hs with h | h
          · exact K.far s (by simp [h])
          · exact HNEW.out s h
        · have := K.glt
          have := hAll.size
          omega
      have HK : Hid (UnK w w4 p ao n cap F T G po k pcap P eo m ecap L H uo ucap U vo vcap V ma me (a :: Tot) (l0 ++ [(k0, true), (i0, false)]) g' 0 gc' path g gc) := K'
      have hdn : (netOf n F T G P m L H U V).todo ((l0 ++ [(k0, true), (i0, false)]).reverse.map (rkS L H)) < gk := by rw [hmap]; omega
      have HDN : Hid ((netOf n F T G P m L H U V).todo ((l0 ++ [(k0, true), (i0, false)]).reverse.map (rkS L H)) < gk) := hdn
      clear K' hdone hgo hmap hS' hfar hAll hdn
      go_wp2
      go_roundg ((netOf n F T G P m L H U V).todo ((l0 ++ [(k0, true), (i0, false)]).reverse.map (rkS L H)))
      case measure => exact HDN.out
      case rel => exact ⟨l0 ++ [(k0, true), (i0, false)], g', 0, gc', path, g, gc, by simp, rfl, HK.out, Nat.le_refl _, by have := HG.out; have := HDN.out; omega⟩

end Go.Proofs.Ytjabllghohapgah

/-
  Weights of edges over triangles, with no program in sight.
-/
set_option linter.unusedVariables false
set_option linter.unusedSimpArgs false
namespace Go.Proofs.Ytjabllghohapgah

/-- What one triangle does: first the weights up, then those down. -/
def stU (s : (Nat → Int) × (Nat → Int)) (t : Tr) : Nat → Int := fun j => if j = t.2.2 then min (s.1 t.2.2) (upT s.1 s.2 t) else s.1 j
def stT (s : (Nat → Int) × (Nat → Int)) (t : Tr) : (Nat → Int) × (Nat → Int) := (stU s t, fun j => if j = t.2.2 then min (s.2 t.2.2) (dnT (stU s t) s.2 t) else s.2 j)
def runT (s : (Nat → Int) × (Nat → Int)) (l : List Tr) : (Nat → Int) × (Nat → Int) := l.foldl stT s
theorem runT_nil (s : (Nat → Int) × (Nat → Int)) : runT s [] = s := rfl
theorem runT_snoc (s : (Nat → Int) × (Nat → Int)) (l : List Tr) (t : Tr) : runT s (l ++ [t]) = stT (runT s l) t := by simp [runT]
theorem stU_in {m : Nat} {L H : Nat → Int} {s : (Nat → Int) × (Nat → Int)} {t : Tr} (ht : TOk m L H t) (h1 : InF m s.1) (h2 : InF m s.2) : InF m (stU s t) := fun j hj => by
  have a := h1 j hj
  have b := h1 t.2.2 ht.2.2.1
  have c := h1 t.2.1 ht.2.1
  have d := h2 t.1 (by have := ht.1; have := ht.2.1; omega)
  unfold stU upT
  split <;> omega
theorem stT_in {m : Nat} {L H : Nat → Int} {s : (Nat → Int) × (Nat → Int)} {t : Tr} (ht : TOk m L H t) (h1 : InF m s.1) (h2 : InF m s.2) : InF m (stT s t).1 ∧ InF m (stT s t).2 := by
  have hu := stU_in ht h1 h2
  refine ⟨hu, fun j hj => ?_⟩
  have a := h2 j hj
  have b := h2 t.2.2 ht.2.2.1
  have c := h2 t.2.1 ht.2.1
  have d := hu t.1 (by have := ht.1; have := ht.2.1; omega)
  unfold stT dnT
  simp only
  split <;> omega
theorem runT_in {m : Nat} {L H : Nat → Int} {s : (Nat → Int) × (Nat → Int)} (h1 : InF m s.1) (h2 : InF m s.2) : ∀ l : List Tr, (∀ t ∈ l, TOk m L H t) → InF m (runT s l).1 ∧ InF m (runT s l).2 := by
  intro l
  induction l generalizing s with
  | nil => intro _; exact ⟨h1, h2⟩
  | cons t l ih =>
    intro h
    have ht := stT_in (h t (by simp)) h1 h2
    exact ih ht.1 ht.2 (fun x hx => h x (by simp [hx]))

end Go.Proofs.Ytjabllghohapgah

/-
  Ranks, the plain part: which numbers were seen, each number's place in a list, and that a list of n numbers below n, none twice, has them all.
-/
set_option linter.unusedVariables false
set_option linter.unusedSimpArgs false
namespace Go.Proofs.Ytjabllghohapgah

/-- Was q among the first k numbers? -/
def sn (P : Nat → Int) : Nat → Nat → Bool
  | 0, _ => false
  | k + 1, q => (P k == (q : Int)) || sn P k q
theorem sn_succ (P : Nat → Int) (k q : Nat) : sn P (k + 1) q = ((P k == (q : Int)) || sn P k q) := rfl
/-- The last place among the first k at which q stands, else z. -/
def rk (P : Nat → Int) (z : Int) : Nat → Nat → Int
  | 0, _ => z
  | k + 1, q => if P k = (q : Int) then (k : Int) else rk P z k q
/-- The first k numbers are below m, none twice. -/
def eachB (m : Nat) (P : Nat → Int) : Nat → Bool
  | 0 => true
  | k + 1 => eachB m P k && (inB (P k) 0 ((m : Int) - 1) && !sn P k (P k).toNat)

theorem rk_sn (P : Nat → Int) : ∀ k q, (sn P k q = true ↔ 0 ≤ rk P (-1) k q)
  | 0, q => by simp [sn, rk]
  | k + 1, q => by
    unfold sn rk
    have := rk_sn P k q
    by_cases h : P k = (q : Int)
    · simp [h]
    · simp [h, this]
theorem rk_same (P : Nat → Int) (z z' : Int) : ∀ k q, sn P k q = true → rk P z k q = rk P z' k q
  | 0, q, h => by simp [sn] at h
  | k + 1, q, h => by
    unfold sn at h
    unfold rk
    by_cases e : P k = (q : Int)
    · simp [e]
    · rw [if_neg e, if_neg e]
      exact rk_same P z z' k q (by simpa [e] using h)
theorem rk_hi (P : Nat → Int) : ∀ k q, rk P (-1) k q < (k : Int) ∧ -1 ≤ rk P (-1) k q
  | 0, q => by simp [rk]
  | k + 1, q => by
    unfold rk
    have := rk_hi P k q
    split <;> omega
theorem eachB_le {m : Nat} {P : Nat → Int} : ∀ n, eachB m P n = true → ∀ k, k ≤ n → eachB m P k = true
  | 0, h, k, hk => by
    have : k = 0 := by omega
    subst this; rfl
  | n + 1, h, k, hk => by
    by_cases e : k = n + 1
    · subst e; exact h
    · simp [eachB] at h
      exact eachB_le n h.1 k (by omega)
theorem eachB_no {m : Nat} {P : Nat → Int} {k n : Nat} (h : eachB m P (k + 1) = false) (hk : k < n) : eachB m P n = false := by
  cases hn : eachB m P n
  · rfl
  · rw [eachB_le n hn (k + 1) (by omega)] at h; cases h

theorem sn_at {P : Nat → Int} {k q : Nat} (h : P k = (q : Int)) (j : Nat) : sn P (k + 1) j = if j = q then true else sn P k j := by
  rw [sn_succ, h]
  by_cases e : j = q
  · simp [e]
  · have h1 : ((q : Int) == (j : Int)) = false := by rw [Bool.eq_false_iff]; simp; omega
    rw [h1, if_neg e]; rfl
theorem rk_at {P : Nat → Int} {z : Int} {k q : Nat} (h : P k = (q : Int)) (j : Nat) : rk P z (k + 1) j = if j = q then (k : Int) else rk P z k j := by
  show (if P k = (j : Int) then (k : Int) else rk P z k j) = _
  by_cases e : j = q
  · rw [if_pos e, if_pos (by omega)]
  · rw [if_neg e, if_neg (by omega)]
theorem eachB_at {m : Nat} {P : Nat → Int} {k q : Nat} (he : eachB m P k = true) (h : P k = (q : Int)) (hi : inB (P k) 0 ((m : Int) - 1) = true) : eachB m P (k + 1) = !sn P k q := by
  show (eachB m P k && (inB (P k) 0 ((m : Int) - 1) && !sn P k (P k).toNat)) = _
  rw [he, hi, h]
  simp

/-- How many of the first n are there. -/
def cntB (f : Nat → Bool) : Nat → Nat
  | 0 => 0
  | n + 1 => cntB f n + (if f n then 1 else 0)
theorem cntB_le (f : Nat → Bool) : ∀ n, cntB f n ≤ n
  | 0 => Nat.le_refl _
  | n + 1 => by unfold cntB; have := cntB_le f n; split <;> omega
theorem cntB_congr {f g : Nat → Bool} : ∀ n, (∀ q, q < n → f q = g q) → cntB f n = cntB g n
  | 0, _ => rfl
  | n + 1, h => by unfold cntB; rw [cntB_congr n (fun q hq => h q (by omega)), h n (by omega)]
theorem cntB_full {f : Nat → Bool} : ∀ n, cntB f n = n → ∀ q, q < n → f q = true
  | 0, _, q, hq => by omega
  | n + 1, h, q, hq => by
    unfold cntB at h
    have hl := cntB_le f n
    cases hf : f n
    · rw [hf] at h; simp at h; omega
    · rw [hf] at h
      simp at h
      by_cases e : q = n
      · subst e; exact hf
      · exact cntB_full n (by omega) q (by omega)
theorem cntB_set {f g : Nat → Bool} {i : Nat} : ∀ n, i < n → f i = false → (∀ q, q < n → g q = (q == i || f q)) → cntB g n = cntB f n + 1
  | 0, hi, _, _ => by omega
  | n + 1, hi, h0, hg => by
    unfold cntB
    rw [hg n (by omega)]
    by_cases e : i = n
    · subst e
      have e2 : cntB g i = cntB f i := cntB_congr i (fun q hq => by
        rw [hg q (by omega)]
        have : q ≠ i := by omega
        simp [this])
      rw [e2, h0]
      simp
    · have : n ≠ i := fun h => e h.symm
      rw [cntB_set n (by omega) h0 (fun q hq => hg q (by omega))]
      simp [this]; omega
theorem cntB_less {f : Nat → Bool} {i n : Nat} (hi : i < n) (h : f i = false) : cntB f n < n := by
  have h1 := cntB_le f n
  by_cases e : cntB f n = n
  · have := cntB_full n e i hi
    rw [h] at this; cases this
  · omega

theorem cnt_sn {m : Nat} {P : Nat → Int} : ∀ k, eachB m P k = true → cntB (sn P k) m = k
  | 0, _ => by
    have : ∀ n, cntB (sn P 0) n = 0 := fun n => by
      induction n with
      | zero => rfl
      | succ n ih => unfold cntB; rw [ih]; simp [sn]
    exact this m
  | k + 1, h => by
    simp [eachB, inB] at h
    obtain ⟨h1, ⟨h2, h3⟩, h4⟩ := h
    have := cnt_sn k h1
    have e := cntB_set (f := sn P k) (g := sn P (k + 1)) (i := (P k).toNat) m (by omega) h4 (fun q hq => by
      rw [sn_succ]
      congr 1
      rw [Bool.eq_iff_iff, beq_iff_eq, beq_iff_eq]
      omega)
    omega
theorem each_all {n : Nat} {P : Nat → Int} (h : eachB n P n = true) : ∀ q, q < n → sn P n q = true := cntB_full n (cnt_sn n h)

/-- The length of what Ranks answers. -/
def okR (n : Nat) (P : Nat → Int) : Bool := decide (1 ≤ n) && (decide (n ≤ 24) && eachB n P n)
def lenR (n : Nat) (P : Nat → Int) : Nat := if okR n P then n else 0
theorem lenR_le (n : Nat) (P : Nat → Int) : lenR n P ≤ 24 := by
  unfold lenR
  split
  · next h => simp [okR] at h; omega
  · omega

end Go.Proofs.Ytjabllghohapgah

/-
  Who is whose neighbour, the plain part: the square of the arcs, a place that is taken away, which goes next.
-/
set_option linter.unusedVariables false
set_option linter.unusedSimpArgs false
namespace Go.Proofs.Ytjabllghohapgah

/-- The square with one entry turned. -/
def upd (B : Nat → Nat → Bool) (x y : Nat) (v : Bool) : Nat → Nat → Bool := fun x' y' => if x' = x ∧ y' = y then v else B x' y'
def upd2 (B : Nat → Nat → Bool) (x y : Nat) (v : Bool) : Nat → Nat → Bool := upd (upd B x y v) y x v
theorem upd2_at (B : Nat → Nat → Bool) (x y : Nat) (v : Bool) (x' y' : Nat) : upd2 B x y v x' y' = if (x' = x ∧ y' = y) ∨ (x' = y ∧ y' = x) then v else B x' y' := by
  unfold upd2 upd
  by_cases h1 : x' = y ∧ y' = x
  · rw [if_pos h1, if_pos (Or.inr h1)]
  · rw [if_neg h1]
    by_cases h2 : x' = x ∧ y' = y
    · rw [if_pos h2, if_pos (Or.inl h2)]
    · rw [if_neg h2, if_neg (fun h => by rcases h with h | h; exact h2 h; exact h1 h)]
/-- Of the first k arcs. -/
def nbA (F T : Nat → Int) : Nat → Nat → Nat → Bool
  | 0 => fun _ _ => false
  | k + 1 => upd2 (nbA F T k) (F k).toNat (T k).toNat true
/-- Place a taken away. -/
def tk (B : Nat → Nat → Bool) (a : Nat) : Nat → Nat → Bool := fun x y => if x = a ∨ y = a then false else (B x y || (B a x && (B a y && x != y)))
/-- Both ways alike, none beside itself. -/
def Fair (B : Nat → Nat → Bool) : Prop := (∀ x y, B x y = B y x) ∧ ∀ x, B x x = false
theorem fair_nbA {F T : Nat → Int} : ∀ n, (∀ k, k < n → (F k).toNat ≠ (T k).toNat) → Fair (nbA F T n)
  | 0, _ => ⟨fun _ _ => rfl, fun _ => rfl⟩
  | n + 1, h => by
    obtain ⟨h1, h2⟩ := fair_nbA n (fun k hk => h k (by omega))
    have hne := h n (by omega)
    refine ⟨fun x y => ?_, fun x => ?_⟩
    · show upd2 _ _ _ _ _ _ = upd2 _ _ _ _ _ _
      rw [upd2_at, upd2_at, h1 x y]
      by_cases e : (x = (F n).toNat ∧ y = (T n).toNat) ∨ (x = (T n).toNat ∧ y = (F n).toNat)
      · rw [if_pos e, if_pos (by omega)]
      · rw [if_neg e, if_neg (by omega)]
    · show upd2 _ _ _ _ _ _ = _
      rw [upd2_at, if_neg (by omega), h2]
theorem fair_tk {B : Nat → Nat → Bool} (h : Fair B) (a : Nat) : Fair (tk B a) := by
  refine ⟨fun x y => ?_, fun x => ?_⟩
  · unfold tk
    by_cases e : x = a ∨ y = a
    · rw [if_pos e, if_pos e.symm]
    · rw [if_neg e, if_neg (fun h => e h.symm), h.1 x y]
      have : (x != y) = (y != x) := by
        rw [Bool.eq_iff_iff, bne_iff_ne, bne_iff_ne]
        exact ⟨fun h e => h e.symm, fun h e => h e.symm⟩
      rw [this]
      cases B a x <;> cases B a y <;> simp
  · unfold tk
    split
    · rfl
    · rw [h.2]; simp

/-- The one with the fewest neighbours among the first k that are not gone, and how many. -/
def pick (p : Nat) (B : Nat → Nat → Bool) (gone : Nat → Bool) : Nat → Nat × Nat
  | 0 => (0, p)
  | k + 1 => if gone k then pick p B gone k else if cntB (B k) p < (pick p B gone k).2 then (k, cntB (B k) p) else pick p B gone k
/-- Of the first k is none left. -/
def noneB (gone : Nat → Bool) : Nat → Bool
  | 0 => true
  | k + 1 => noneB gone k && gone k
theorem noneB_all {gone : Nat → Bool} : ∀ k, noneB gone k = true → cntB gone k = k
  | 0, _ => rfl
  | k + 1, h => by
    simp [noneB] at h
    unfold cntB
    rw [noneB_all k h.1, h.2]; rfl
theorem pick_none {p : Nat} {B : Nat → Nat → Bool} {gone : Nat → Bool} : ∀ k, noneB gone k = true → pick p B gone k = (0, p)
  | 0, _ => rfl
  | k + 1, h => by
    simp [noneB] at h
    unfold pick
    rw [if_pos h.2, pick_none k h.1]
theorem pick_le {p : Nat} {B : Nat → Nat → Bool} {gone : Nat → Bool} : ∀ k, (pick p B gone k).2 ≤ p
  | 0 => Nat.le_refl _
  | k + 1 => by
    unfold pick
    have := pick_le (p := p) (B := B) (gone := gone) k
    split
    · exact this
    · split
      · exact cntB_le _ _
      · exact this
theorem pick_some {p : Nat} {B : Nat → Nat → Bool} {gone : Nat → Bool} (hB : Fair B) : ∀ k, k ≤ p → noneB gone k = false → (pick p B gone k).1 < k ∧ gone (pick p B gone k).1 = false ∧ (pick p B gone k).2 < p
  | 0, _, h => by simp [noneB] at h
  | k + 1, hk, h => by
    have hc : cntB (B k) p < p := cntB_less (i := k) (by omega) (hB.2 k)
    unfold pick
    cases hg : gone k
    · simp only [Bool.false_eq_true, if_false]
      split
      · exact ⟨by simp, hg, hc⟩
      · next hlt =>
        cases hn : noneB gone k
        · have := pick_some (p := p) hB k (Nat.le_of_succ_le hk) hn
          exact ⟨by omega, this.2⟩
        · rw [pick_none k hn] at hlt
          simp at hlt
          omega
    · simp only [if_true]
      have : noneB gone k = false := by
        cases hn : noneB gone k
        · rfl
        · simp [noneB, hn, hg] at h
      have := pick_some (p := p) hB k (Nat.le_of_succ_le hk) this
      exact ⟨by omega, this.2⟩

/-- What stands when k places have been taken away: the square, those that are gone, the list. -/
def goneU (gone : Nat → Bool) (a : Nat) : Nat → Bool := fun q => if q = a then true else gone q
def run3 (p : Nat) (B : Nat → Nat → Bool) : Nat → (Nat → Nat → Bool) × (Nat → Bool) × (Nat → Int)
  | 0 => (B, fun _ => false, fun _ => 0)
  | k + 1 =>
    let s := run3 p B k
    let a := (pick p s.1 s.2.1 p).1
    (tk s.1 a, goneU s.2.1 a, fun j => if j = k then (a : Int) else s.2.2 j)
theorem run3_fair {p : Nat} {B : Nat → Nat → Bool} (h : Fair B) : ∀ k, Fair (run3 p B k).1
  | 0 => h
  | k + 1 => fair_tk (run3_fair h k) _
theorem run3_gone {p : Nat} {B : Nat → Nat → Bool} (h : Fair B) : ∀ k, k ≤ p → cntB (run3 p B k).2.1 p = k ∧ (k < p → noneB (run3 p B k).2.1 p = false)
  | 0, hk => by
    have h0 : ∀ m, cntB (fun _ => false) m = 0 := fun m => by
      induction m with
      | zero => rfl
      | succ m ih => unfold cntB; rw [ih]; rfl
    refine ⟨h0 p, fun hp => ?_⟩
    cases hn : noneB (run3 p B 0).2.1 p
    · rfl
    · have := noneB_all p hn
      have := h0 p
      simp only [run3] at *
      omega
  | k + 1, hk => by
    obtain ⟨h1, h2⟩ := run3_gone (p := p) h k (Nat.le_of_succ_le hk)
    have h3 := pick_some (p := p) (run3_fair (p := p) h k) p (Nat.le_refl _) (h2 (by omega))
    have e : cntB (run3 p B (k + 1)).2.1 p = k + 1 := by
      have := cntB_set (f := (run3 p B k).2.1) (g := (run3 p B (k + 1)).2.1) p h3.1 h3.2.1 (fun q hq => by
        show goneU _ _ q = _
        unfold goneU
        by_cases e : q = (pick p (run3 p B k).1 (run3 p B k).2.1 p).1
        · rw [if_pos e]; simp [e]
        · rw [if_neg e]; simp [e])
      omega
    refine ⟨e, fun hp => ?_⟩
    cases hn : noneB (run3 p B (k + 1)).2.1 p
    · rfl
    · have := noneB_all p hn
      omega
theorem run3_place {p : Nat} {B : Nat → Nat → Bool} (h : Fair B) {k : Nat} (hk : k < p) : (pick p (run3 p B k).1 (run3 p B k).2.1 p).1 < p :=
  (pick_some (run3_fair h k) p (Nat.le_refl _) ((run3_gone h k (by omega)).2 hk)).1

end Go.Proofs.Ytjabllghohapgah

/-
  The neighbours of a place as a list, the plain part: how many come ahead of a place, which is the i-th; the square while a place is being taken away.
-/
set_option linter.unusedVariables false
set_option linter.unusedSimpArgs false
namespace Go.Proofs.Ytjabllghohapgah

/-- The numbers below k that are there, in a list. -/
def nf (f : Nat → Bool) : Nat → (Nat → Int)
  | 0 => fun _ => 0
  | k + 1 => if f k then (fun j => if j = cntB f k then (k : Int) else nf f k j) else nf f k
theorem cntB_mono (f : Nat → Bool) {a b : Nat} (h : a ≤ b) : cntB f a ≤ cntB f b := by
  induction b with
  | zero => have : a = 0 := by omega
            subst this; exact Nat.le_refl _
  | succ b ih =>
    by_cases e : a = b + 1
    · subst e; exact Nat.le_refl _
    · have h1 := ih (by omega)
      have h2 : cntB f b ≤ cntB f (b + 1) := by
        show cntB f b ≤ cntB f b + _
        omega
      omega
theorem cntB_succ {f : Nat → Bool} {k : Nat} (h : f k = true) : cntB f (k + 1) = cntB f k + 1 := by simp [cntB, h]
theorem cntB_same {f : Nat → Bool} {k : Nat} (h : f k = false) : cntB f (k + 1) = cntB f k := by simp [cntB, h]
theorem cntB_inj {f : Nat → Bool} {x y : Nat} (hx : f x = true) (hy : f y = true) (h : cntB f x = cntB f y) : x = y := by
  rcases Nat.lt_trichotomy x y with hl | e | hl
  · have h1 := cntB_mono f (show x + 1 ≤ y by omega)
    rw [cntB_succ hx] at h1; omega
  · exact e
  · have h1 := cntB_mono f (show y + 1 ≤ x by omega)
    rw [cntB_succ hy] at h1; omega
theorem nf_at {f : Nat → Bool} : ∀ p i, i < cntB f p → ∃ q : Nat, q < p ∧ nf f p i = (q : Int) ∧ f q = true ∧ cntB f q = i
  | 0, i, h => by simp [cntB] at h
  | p + 1, i, h => by
    unfold nf
    cases hf : f p
    · rw [cntB_same hf] at h
      obtain ⟨q, h1, h2, h3⟩ := nf_at p i h
      exact ⟨q, by omega, by simpa using h2, h3⟩
    · rw [cntB_succ hf] at h
      simp only [if_true]
      by_cases e : i = cntB f p
      · exact ⟨p, by omega, by rw [if_pos e], hf, e.symm⟩
      · obtain ⟨q, h1, h2, h3⟩ := nf_at (f := f) p i (by omega)
        exact ⟨q, by omega, by rw [if_neg e]; exact h2, h3⟩

/-- Is x among the first i that are there? -/
def am (f : Nat → Bool) (i x : Nat) : Bool := f x && decide (cntB f x < i)
theorem am_zero (f : Nat → Bool) (x : Nat) : am f 0 x = false := by simp [am]
theorem am_succ {f : Nat → Bool} {i q : Nat} (hq : f q = true) (hc : cntB f q = i) (x : Nat) : am f (i + 1) x = (am f i x || x == q) := by
  unfold am
  by_cases e : x = q
  · subst e; simp [hq, hc]
  · cases hx : f x
    · have : (x == q) = false := by simpa using e
      simp [this]
    · have h1 : cntB f x ≠ i := fun h => e (cntB_inj hx hq (by omega))
      have h2 : (x == q) = false := by simpa using e
      rw [h2]
      simp; omega
theorem am_all {f : Nat → Bool} {p x : Nat} (hx : x < p) : am f (cntB f p) x = f x := by
  unfold am
  cases h : f x
  · rfl
  · have := cntB_mono f (show x + 1 ≤ p by omega)
    rw [cntB_succ h] at this
    simp; omega

/-- While a is being taken away: the first i of its neighbours are done; q is joined with the first k. -/
def mid (B : Nat → Nat → Bool) (a i q k : Nat) : Nat → Nat → Bool := fun x y =>
  if x = a then B a y && !am (B a) i y else if y = a then B a x && !am (B a) i x
  else B x y || ((am (B a) i x && (B a y && x != y)) || (x == q && (am (B a) k y && x != y)))
theorem mid_start {B : Nat → Nat → Bool} (hB : Fair B) (a q x y : Nat) : mid B a 0 q 0 x y = B x y := by
  unfold mid
  simp only [am_zero]
  split
  · next h => subst h; simp
  · split
    · next h => subst h; simp [hB.1 x y]
    · simp
theorem mid_skip {B : Nat → Nat → Bool} {a i q q' x y : Nat} : mid B a i q 0 x y = mid B a i q' 0 x y := by
  unfold mid
  simp only [am_zero]
  simp
theorem mid_join {B : Nat → Nat → Bool} (hB : Fair B) {a i q k q' : Nat} (hq : B a q = true) (hq' : B a q' = true) (hc : cntB (B a) q' = k) (hne : q ≠ q') (x y : Nat) : upd (mid B a i q k) q q' true x y = mid B a i q (k + 1) x y := by
  have ha : q ≠ a := fun e => by rw [e, hB.2] at hq; cases hq
  have ha' : q' ≠ a := fun e => by rw [e, hB.2] at hq'; cases hq'
  unfold upd
  by_cases e : x = q ∧ y = q'
  · obtain ⟨rfl, rfl⟩ := e
    rw [if_pos ⟨rfl, rfl⟩]
    unfold mid
    rw [if_neg ha, if_neg ha', am_succ hq' hc]
    have : (x != y) = true := by simpa using hne
    simp [this]
  · rw [if_neg e]
    unfold mid
    by_cases h1 : x = a
    · rw [if_pos h1, if_pos h1]
    · rw [if_neg h1, if_neg h1]
      by_cases h2 : y = a
      · rw [if_pos h2, if_pos h2]
      · rw [if_neg h2, if_neg h2, am_succ hq' hc]
        by_cases h3 : x = q
        · have h4 : (y == q') = false := by
            have : y ≠ q' := fun h => e ⟨h3, h⟩
            simpa using this
          rw [h4]; simp
        · have h4 : (x == q) = false := by simpa using h3
          rw [h4]; simp
theorem mid_pass {B : Nat → Nat → Bool} {a i q k : Nat} (hq : B a q = true) (hc : cntB (B a) q = k) (x y : Nat) : mid B a i q k x y = mid B a i q (k + 1) x y := by
  unfold mid
  rw [am_succ hq hc]
  by_cases h1 : x = a
  · rw [if_pos h1, if_pos h1]
  · rw [if_neg h1, if_neg h1]
    by_cases h2 : y = a
    · rw [if_pos h2, if_pos h2]
    · rw [if_neg h2, if_neg h2]
      by_cases h3 : x = q
      · by_cases h4 : y = q
        · subst h3 h4; simp
        · have : (y == q) = false := by simpa using h4
          rw [this]; simp
      · have h4 : (x == q) = false := by simpa using h3
        rw [h4]; simp
theorem mid_done {B : Nat → Nat → Bool} (hB : Fair B) {a i q p : Nat} (hq : B a q = true) (hc : cntB (B a) q = i) {x y : Nat} (hx : x < p) (hy : y < p) : upd (upd (mid B a i q (cntB (B a) p)) a q false) q a false x y = mid B a (i + 1) 0 0 x y := by
  have ha : q ≠ a := fun e => by rw [e, hB.2] at hq; cases hq
  have ha' : ¬ a = q := fun e => ha e.symm
  unfold upd
  by_cases e1 : x = q ∧ y = a
  · obtain ⟨rfl, rfl⟩ := e1
    rw [if_pos ⟨rfl, rfl⟩]
    unfold mid
    rw [if_neg ha, if_pos rfl, am_succ hq hc]; simp
  · rw [if_neg e1]
    by_cases e2 : x = a ∧ y = q
    · obtain ⟨rfl, rfl⟩ := e2
      rw [if_pos ⟨rfl, rfl⟩]
      unfold mid
      rw [if_pos rfl, am_succ hq hc]; simp
    · rw [if_neg e2]
      unfold mid
      rw [am_succ hq hc, am_succ hq hc, am_all hy]
      by_cases h1 : x = a
      · rw [if_pos h1, if_pos h1]
        have : (y == q) = false := by
          have : y ≠ q := fun h => e2 ⟨h1, h⟩
          simpa using this
        rw [this]; simp
      · rw [if_neg h1, if_neg h1]
        by_cases h2 : y = a
        · rw [if_pos h2, if_pos h2]
          have : (x == q) = false := by
            have : x ≠ q := fun h => e1 ⟨h, h2⟩
            simpa using this
          rw [this]; simp
        · rw [if_neg h2, if_neg h2, am_zero]
          cases am (B a) i x <;> cases (x == q) <;> simp
theorem mid_end {B : Nat → Nat → Bool} (hB : Fair B) {a p q x y : Nat} (hx : x < p) (hy : y < p) : mid B a (cntB (B a) p) q 0 x y = tk B a x y := by
  unfold mid tk
  rw [am_all hx, am_all hy, am_zero]
  by_cases h1 : x = a
  · rw [if_pos h1, if_pos (Or.inl h1)]; simp
  · rw [if_neg h1]
    by_cases h2 : y = a
    · rw [if_pos h2, if_pos (Or.inr h2)]; simp
    · rw [if_neg h2, if_neg (fun h => by rcases h with h | h; exact h1 h; exact h2 h)]; simp

end Go.Proofs.Ytjabllghohapgah

/-
  Whom an iterator visits: the plain part.
-/
set_option linter.unusedVariables false
set_option linter.unusedSimpArgs false
namespace Go.Proofs.Ytjabllghohapgah



/-- The places that have come when k have been looked at; 'bits' tells the row when a list has come. -/
def vis (bits : List Nat → Nat → Bool) : Nat → List Nat
  | 0 => []
  | k + 1 => if bits (vis bits k) k then vis bits k ++ [k] else vis bits k
/-- Those of the first k that are there. -/
def visF (f : Nat → Bool) (k : Nat) : List Nat := vis (fun _ => f) k
theorem visF_len (f : Nat → Bool) : ∀ k, (visF f k).length = cntB f k
  | 0 => rfl
  | k + 1 => by
    show (if f k then visF f k ++ [k] else visF f k).length = cntB f k + _
    have := visF_len f k
    split <;> simp_all
theorem visF_mem (f : Nat → Bool) : ∀ k x, x ∈ visF f k ↔ x < k ∧ f x = true
  | 0, x => by simp [visF, vis]
  | k + 1, x => by
    show x ∈ (if f k then visF f k ++ [k] else visF f k) ↔ _
    have := visF_mem f k x
    by_cases h : f k = true
    · rw [if_pos h, List.mem_append, this, List.mem_singleton]
      constructor
      · rintro (⟨h1, h2⟩ | rfl)
        · exact ⟨by omega, h2⟩
        · exact ⟨by omega, h⟩
      · rintro ⟨h1, h2⟩
        by_cases e : x = k
        · exact .inr e
        · exact .inl ⟨by omega, h2⟩
    · rw [if_neg h, this]
      constructor
      · rintro ⟨h1, h2⟩
        exact ⟨by omega, h2⟩
      · rintro ⟨h1, h2⟩
        refine ⟨?_, h2⟩
        by_cases e : x = k
        · subst e; exact absurd h2 h
        · omega

end Go.Proofs.Ytjabllghohapgah

/-
  A place being taken away by the program, the plain part: which pairs are joined while its neighbours go one by one.
-/
set_option linter.unusedVariables false
set_option linter.unusedSimpArgs false
namespace Go.Proofs.Ytjabllghohapgah

/-- Nobody beyond the places. -/
def Within (p : Nat) (B : Nat → Nat → Bool) : Prop := ∀ x y, B x y = true → x < p ∧ y < p
theorem within_nbA {F T : Nat → Int} {p : Nat} : ∀ n, (∀ k, k < n → (F k).toNat < p ∧ (T k).toNat < p) → Within p (nbA F T n)
  | 0, _, x, y, h => by simp [nbA] at h
  | n + 1, hk, x, y, h => by
    have h' : upd2 (nbA F T n) (F n).toNat (T n).toNat true x y = true := h
    rw [upd2_at] at h'
    have := hk n (by omega)
    by_cases e : (x = (F n).toNat ∧ y = (T n).toNat) ∨ (x = (T n).toNat ∧ y = (F n).toNat)
    · omega
    · rw [if_neg e] at h'
      exact within_nbA n (fun k hk' => hk k (by omega)) x y h'
theorem within_tk {p : Nat} {B : Nat → Nat → Bool} (h : Within p B) (a : Nat) : Within p (tk B a) := fun x y hx => by
  unfold tk at hx
  split at hx
  · cases hx
  · simp at hx
    rcases hx with hx | ⟨h1, h2, _⟩
    · exact h x y hx
    · exact ⟨(h a x h1).2, (h a y h2).2⟩
theorem within_run3 {p : Nat} {B : Nat → Nat → Bool} (h : Within p B) : ∀ k, Within p (run3 p B k).1
  | 0 => h
  | k + 1 => within_tk (within_run3 h k) _

/-- Those in the list are parted from a and joined with all its neighbours. -/
def stI (B : Nat → Nat → Bool) (a : Nat) (pre : List Nat) : Nat → Nat → Bool := fun x y =>
  if x = a then B a y && !pre.contains y else if y = a then B a x && !pre.contains x
  else B x y || (x != y && (B a x && (B a y && (pre.contains x || pre.contains y))))
/-- Besides, q is parted from a and joined with those of the second list. -/
def stJ (B : Nat → Nat → Bool) (a : Nat) (pre : List Nat) (q : Nat) (pre' : List Nat) : Nat → Nat → Bool := fun x y =>
  if x = a then B a y && !(pre ++ [q]).contains y else if y = a then B a x && !(pre ++ [q]).contains x
  else B x y || ((x != y && (B a x && (B a y && (pre.contains x || pre.contains y)))) || ((x == q && pre'.contains y) || (y == q && pre'.contains x)))
theorem contains_snoc (l : List Nat) (q x : Nat) : (l ++ [q]).contains x = (l.contains x || x == q) := by
  rw [Bool.eq_iff_iff]
  simp
theorem stI_row (B : Nat → Nat → Bool) (a : Nat) (pre : List Nat) : stI B a pre a = fun j => B a j && !pre.contains j := by
  funext j; unfold stI; rw [if_pos rfl]
theorem stJ_row (B : Nat → Nat → Bool) (a : Nat) (pre : List Nat) (q : Nat) (pre' : List Nat) : stJ B a pre q pre' a = fun j => B a j && !(pre ++ [q]).contains j := by
  funext j; unfold stJ; rw [if_pos rfl]
theorem stI_start {B : Nat → Nat → Bool} (hB : Fair B) (a x y : Nat) : stI B a [] x y = B x y := by
  unfold stI
  by_cases h1 : x = a
  · subst h1; simp
  · rw [if_neg h1]
    by_cases h2 : y = a
    · subst h2; simp [hB.1 x y]
    · rw [if_neg h2]; simp
theorem stI_part (B : Nat → Nat → Bool) {a q : Nat} (pre : List Nat) (hq : q ≠ a) (x y : Nat) : upd2 (stI B a pre) a q false x y = stJ B a pre q [] x y := by
  rw [upd2_at]
  unfold stI stJ
  rw [contains_snoc, contains_snoc]
  by_cases h1 : x = a
  · rw [if_pos h1, if_pos h1]
    by_cases h2 : y = q
    · subst h2; rw [if_pos (Or.inl ⟨h1, rfl⟩)]; simp
    · rw [if_neg (by omega)]
      have : (y == q) = false := by simpa using h2
      rw [this]; simp
  · rw [if_neg h1, if_neg h1]
    by_cases h2 : y = a
    · rw [if_pos h2, if_pos h2]
      by_cases h3 : x = q
      · subst h3; rw [if_pos (Or.inr ⟨rfl, h2⟩)]; simp
      · rw [if_neg (by omega)]
        have : (x == q) = false := by simpa using h3
        rw [this]; simp
    · rw [if_neg (by omega), if_neg h2, if_neg h2]; simp
theorem stJ_join (B : Nat → Nat → Bool) {a q b : Nat} (pre pre' : List Nat) (hq : q ≠ a) (hb : b ≠ a) (x y : Nat) : upd2 (stJ B a pre q pre') q b true x y = stJ B a pre q (pre' ++ [b]) x y := by
  rw [upd2_at]
  by_cases e : (x = q ∧ y = b) ∨ (x = b ∧ y = q)
  · rw [if_pos e]
    unfold stJ
    rw [if_neg (by omega), if_neg (by omega), contains_snoc, contains_snoc]
    rcases e with ⟨rfl, rfl⟩ | ⟨rfl, rfl⟩ <;> simp
  · rw [if_neg e]
    unfold stJ
    rw [contains_snoc pre', contains_snoc pre']
    by_cases h1 : x = a
    · rw [if_pos h1, if_pos h1]
    · rw [if_neg h1, if_neg h1]
      by_cases h2 : y = a
      · rw [if_pos h2, if_pos h2]
      · rw [if_neg h2, if_neg h2]
        have e1 : (x == q && (pre'.contains y || y == b)) = (x == q && pre'.contains y) := by
          by_cases hx : x = q
          · have hy : y ≠ b := fun h => e (Or.inl ⟨hx, h⟩)
            have : (y == b) = false := by simpa using hy
            rw [this]; simp
          · have : (x == q) = false := by simpa using hx
            rw [this]; simp
        have e2 : (y == q && (pre'.contains x || x == b)) = (y == q && pre'.contains x) := by
          by_cases hy : y = q
          · have hx : x ≠ b := fun h => e (Or.inr ⟨h, hy⟩)
            have : (x == b) = false := by simpa using hx
            rw [this]; simp
          · have : (y == q) = false := by simpa using hy
            rw [this]; simp
        rw [e1, e2]
theorem visF_contains (f : Nat → Bool) (p x : Nat) : (visF f p).contains x = (decide (x < p) && f x) := by
  rw [Bool.eq_iff_iff]
  simp [visF_mem]
theorem stJ_end {B : Nat → Nat → Bool} {p a q : Nat} {pre : List Nat} (hW : Within p B) (hq : B a q = true) (x y : Nat) : stJ B a pre q (visF (fun j => B a j && !(pre ++ [q]).contains j) p) x y = stI B a (pre ++ [q]) x y := by
  unfold stI stJ
  rw [visF_contains, visF_contains, contains_snoc, contains_snoc]
  by_cases h1 : x = a
  · rw [if_pos h1, if_pos h1]
  · rw [if_neg h1, if_neg h1]
    by_cases h2 : y = a
    · rw [if_pos h2, if_pos h2]
    · rw [if_neg h2, if_neg h2]
      have wx : B a x = true → decide (x < p) = true := fun h => by simpa using (hW a x h).2
      have wy : B a y = true → decide (y < p) = true := fun h => by simpa using (hW a y h).2
      congr 1
      by_cases hx : x = q
      · by_cases hy : y = q
        · subst hx hy; simp
        · have e1 : (x == q) = true := by simpa using hx
          have e2 : (y == q) = false := by simpa using hy
          have e3 : (x != y) = true := by simp; omega
          have e4 : B a x = true := by rw [hx]; exact hq
          rw [e1, e2, e3, e4]
          cases hby : B a y
          · simp
          · rw [wy hby]
            cases pre.contains y <;> simp
      · by_cases hy : y = q
        · have e1 : (x == q) = false := by simpa using hx
          have e2 : (y == q) = true := by simpa using hy
          have e3 : (x != y) = true := by simp; omega
          have e4 : B a y = true := by rw [hy]; exact hq
          rw [e1, e2, e3, e4]
          cases hbx : B a x
          · simp
          · rw [wx hbx]
            cases pre.contains x <;> simp
        · have e1 : (x == q) = false := by simpa using hx
          have e2 : (y == q) = false := by simpa using hy
          rw [e1, e2]; simp
theorem stI_end {B : Nat → Nat → Bool} {p a : Nat} (hW : Within p B) (x y : Nat) : stI B a (visF (B a) p) x y = tk B a x y := by
  unfold stI tk
  rw [visF_contains, visF_contains]
  have wx : (decide (x < p) && B a x) = B a x := by
    cases h : B a x
    · simp
    · have := (hW a x h).2
      simp [this]
  have wy : (decide (y < p) && B a y) = B a y := by
    cases h : B a y
    · simp
    · have := (hW a y h).2
      simp [this]
  rw [wx, wy]
  by_cases h1 : x = a
  · rw [if_pos h1, if_pos (Or.inl h1)]; simp
  · rw [if_neg h1]
    by_cases h2 : y = a
    · rw [if_pos h2, if_pos (Or.inr h2)]; simp
    · rw [if_neg h2, if_neg (fun h => by rcases h with h | h; exact h1 h; exact h2 h)]
      congr 1
      cases B a x <;> cases B a y <;> simp
/-- What comes while those that came are struck out is what would have come. -/
theorem vis_struck (f : Nat → Bool) : ∀ k, vis (fun pre j => f j && !pre.contains j) k = visF f k
  | 0 => rfl
  | k + 1 => by
    have ih := vis_struck f k
    have hb : (f k && !(visF f k).contains k) = f k := by
      rw [visF_contains]; simp
    show (if f k && !(vis (fun pre j => f j && !pre.contains j) k).contains k then vis (fun pre j => f j && !pre.contains j) k ++ [k] else vis (fun pre j => f j && !pre.contains j) k) = (if f k then visF f k ++ [k] else visF f k)
    rw [ih, hb]

end Go.Proofs.Ytjabllghohapgah

/-
  The fill, the plain part: the squares while places are taken away in an order, the edges in their order, the edges as they come, and that a sorted list of the ones is the other.
-/
set_option linter.unusedVariables false
set_option linter.unusedSimpArgs false
namespace Go.Proofs.Ytjabllghohapgah

theorem sn_mem {P : Nat → Int} : ∀ k q, sn P k q = true ↔ ∃ j, j < k ∧ P j = (q : Int)
  | 0, q => by simp [sn]
  | k + 1, q => by
    rw [sn_succ, Bool.or_eq_true, sn_mem k q, beq_iff_eq]
    constructor
    · rintro (h | ⟨j, h1, h2⟩)
      · exact ⟨k, by omega, h⟩
      · exact ⟨j, by omega, h2⟩
    · rintro ⟨j, h1, h2⟩
      by_cases e : j = k
      · subst e; exact Or.inl h2
      · exact Or.inr ⟨j, by omega, h2⟩
theorem each_in {m : Nat} {P : Nat → Int} : ∀ n, eachB m P n = true → ∀ k, k < n → (0 ≤ P k ∧ P k < (m : Int)) ∧ sn P k (P k).toNat = false
  | 0, _, k, hk => by omega
  | n + 1, h, k, hk => by
    simp only [eachB, Bool.and_eq_true] at h
    by_cases e : k = n
    · subst e
      have h1 : 0 ≤ P k ∧ P k ≤ (m : Int) - 1 := by simpa [inB] using h.2.1
      exact ⟨by omega, by simpa using h.2.2⟩
    · exact each_in n h.1 k (by omega)
theorem each_inj {m n : Nat} {P : Nat → Int} (h : eachB m P n = true) {i j : Nat} (hi : i < n) (hj : j < n) (e : P i = P j) : i = j := by
  have key : ∀ a b, a < b → b < n → P a ≠ P b := fun a b hab hb e => by
    have h1 := each_in n h b hb
    have : sn P b (P b).toNat = true := (sn_mem b _).2 ⟨a, hab, by omega⟩
    rw [h1.2] at this; cases this
  rcases Nat.lt_trichotomy i j with hl | hl | hl
  · exact absurd e (key i j hl hj)
  · exact hl
  · exact absurd e.symm (key j i hl hi)
theorem rk_is {m : Nat} {P : Nat → Int} (z : Int) : ∀ n, eachB m P n = true → ∀ h, h < n → rk P z n (P h).toNat = (h : Int)
  | 0, _, h, hh => by omega
  | n + 1, he, h, hh => by
    have h0 := each_in (n + 1) he h hh
    show (if P n = (((P h).toNat : Nat) : Int) then (n : Int) else rk P z n (P h).toNat) = (h : Int)
    by_cases e : h = n
    · subst e; rw [if_pos (by omega)]
    · rw [if_neg (fun x => e (each_inj he hh (Nat.lt_succ_self n) (by omega)))]
      simp only [eachB, Bool.and_eq_true] at he
      exact rk_is z n he.1 h (by omega)
/-- Each place has its rank. -/
theorem rk_of {n : Nat} {P : Nat → Int} (h : eachB n P n = true) (z : Int) {q : Nat} (hq : q < n) : ∃ k, k < n ∧ P k = (q : Int) ∧ rk P z n q = (k : Int) := by
  obtain ⟨k, hk, e⟩ := (sn_mem n q).1 (each_all h q hq)
  refine ⟨k, hk, e, ?_⟩
  have := rk_is z n h k hk
  rw [e] at this
  simpa using this

/-- The square when k places have been taken away. -/
def sqO (B : Nat → Nat → Bool) (P : Nat → Int) : Nat → Nat → Nat → Bool
  | 0 => B
  | k + 1 => tk (sqO B P k) (P k).toNat
theorem sqO_fair {B : Nat → Nat → Bool} (h : Fair B) (P : Nat → Int) : ∀ k, Fair (sqO B P k)
  | 0 => h
  | k + 1 => fair_tk (sqO_fair h P k) _
theorem sqO_within {p : Nat} {B : Nat → Nat → Bool} (h : Within p B) (P : Nat → Int) : ∀ k, Within p (sqO B P k)
  | 0 => h
  | k + 1 => within_tk (sqO_within h P k) _
theorem sqO_gone {B : Nat → Nat → Bool} (hB : Fair B) (P : Nat → Int) : ∀ k j, j < k → ∀ y, sqO B P k (P j).toNat y = false
  | 0, j, hj, y => by omega
  | k + 1, j, hj, y => by
    show tk (sqO B P k) (P k).toNat (P j).toNat y = false
    unfold tk
    by_cases e : j = k
    · subst e; rw [if_pos (Or.inl rfl)]
    · have h1 := sqO_gone hB P k j (by omega)
      split
      · rfl
      · rw [h1 y, (sqO_fair hB P k).1, h1]; rfl

abbrev Pr : Type := Int × Int
def lt2 (a b : Pr) : Prop := upB a.1 a.2 b.1 b.2 = true
theorem lt2_iff (a b : Pr) : lt2 a b ↔ a.1 < b.1 ∨ (a.1 = b.1 ∧ a.2 < b.2) := by
  unfold lt2 upB; simp
theorem lt2_irr (a : Pr) : ¬ lt2 a a := by rw [lt2_iff]; omega
theorem lt2_trans {a b c : Pr} (h1 : lt2 a b) (h2 : lt2 b c) : lt2 a c := by rw [lt2_iff] at *; omega
theorem lt2_tot {a b : Pr} (h1 : ¬ lt2 a b) (h2 : ¬ lt2 b a) : a = b := by
  rw [lt2_iff] at *
  have h3 : a.1 = b.1 := by omega
  have h4 : a.2 = b.2 := by omega
  exact Prod.ext h3 h4
theorem le2_trans {a b c : Pr} (h1 : ¬ lt2 b a) (h2 : ¬ lt2 c b) : ¬ lt2 c a := by rw [lt2_iff] at *; omega
/-- In their order. -/
def Srt (l : List Pr) : Prop := l.Pairwise (fun a b => ¬ lt2 b a)
theorem srt_unique : ∀ (l1 l2 : List Pr), l1.Pairwise lt2 → Srt l2 → l2.Nodup → (∀ x, x ∈ l1 ↔ x ∈ l2) → l1 = l2
  | [], l2, _, _, _, h => by
    cases l2 with
    | nil => rfl
    | cons b bs => exact absurd ((h b).2 (by simp)) (by simp)
  | a :: xs, [], _, _, _, h => absurd ((h a).1 (by simp)) (by simp)
  | a :: xs, b :: bs, h1, h2, h3, h => by
    rw [List.pairwise_cons] at h1
    unfold Srt at h2
    rw [List.pairwise_cons] at h2
    rw [List.nodup_cons] at h3
    have hab : a = b := by
      by_cases e : a = b
      · exact e
      · have x1 : a ∈ bs := by
          have := (h a).1 (by simp)
          simp at this
          exact this.resolve_left e
        have x2 : b ∈ xs := by
          have := (h b).2 (by simp)
          simp at this
          exact this.resolve_left (fun x => e x.symm)
        exact absurd (h1.1 b x2) (h2.1 a x1)
    subst hab
    rw [srt_unique xs bs h1.2 h2.2 h3.2 (fun x => ?_)]
    constructor
    · intro hx
      have := (h x).1 (by simp [hx])
      simp at this
      rcases this with e | e
      · subst e; exact absurd (h1.1 x hx) (lt2_irr x)
      · exact e
    · intro hx
      have := (h x).2 (by simp [hx])
      simp at this
      rcases this with e | e
      · subst e; exact absurd hx h3.1
      · exact e

section
variable (B : Nat → Nat → Bool) (P : Nat → Int) (p : Nat)
/-- The edges of rank r to ranks below h, in their order. -/
def rowS (r : Nat) : Nat → List Pr
  | 0 => []
  | h + 1 => rowS r h ++ (if r < h ∧ sqO B P r (P r).toNat (P h).toNat = true then [((r : Int), (h : Int))] else [])
def allS : Nat → List Pr
  | 0 => []
  | r + 1 => allS r ++ rowS B P r p
/-- The edges of rank r as they come: by places. -/
def rowU (r k : Nat) : List Pr := (visF (sqO B P r (P r).toNat) k).map (fun q => ((r : Int), rk P (-1) p q))
def allU : Nat → List Pr
  | 0 => []
  | r + 1 => allU r ++ rowU B P p r p
end
variable {B : Nat → Nat → Bool} {P : Nat → Int} {p : Nat}
theorem mem_rowS (r : Nat) (x : Pr) : ∀ k, x ∈ rowS B P r k ↔ ∃ h, h < k ∧ r < h ∧ sqO B P r (P r).toNat (P h).toNat = true ∧ x = ((r : Int), (h : Int))
  | 0 => by simp [rowS]
  | k + 1 => by
    show x ∈ rowS B P r k ++ _ ↔ _
    rw [List.mem_append, mem_rowS r x k]
    constructor
    · rintro (⟨h, h1, h2⟩ | h)
      · exact ⟨h, by omega, h2⟩
      · split at h
        · next c =>
          simp at h
          exact ⟨k, by omega, c.1, c.2, h⟩
        · simp at h
    · rintro ⟨h, h1, h2, h3, h4⟩
      by_cases e : h = k
      · subst e
        right
        rw [if_pos ⟨h2, h3⟩, h4]; simp
      · exact Or.inl ⟨h, by omega, h2, h3, h4⟩
theorem mem_allS (x : Pr) : ∀ R, x ∈ allS B P p R ↔ ∃ r h, r < R ∧ h < p ∧ r < h ∧ sqO B P r (P r).toNat (P h).toNat = true ∧ x = ((r : Int), (h : Int))
  | 0 => by simp [allS]
  | R + 1 => by
    show x ∈ allS B P p R ++ _ ↔ _
    rw [List.mem_append, mem_allS x R, mem_rowS]
    constructor
    · rintro (⟨r, h, h1, h2⟩ | ⟨h, h1, h2⟩)
      · exact ⟨r, h, by omega, h2⟩
      · exact ⟨R, h, by omega, h1, h2⟩
    · rintro ⟨r, h, h1, h2⟩
      by_cases e : r = R
      · subst e; exact Or.inr ⟨h, h2⟩
      · exact Or.inl ⟨r, h, by omega, h2⟩
theorem mem_allU (x : Pr) : ∀ R, x ∈ allU B P p R ↔ ∃ r q, r < R ∧ q < p ∧ sqO B P r (P r).toNat q = true ∧ x = ((r : Int), rk P (-1) p q)
  | 0 => by simp [allU]
  | R + 1 => by
    show x ∈ allU B P p R ++ rowU B P p R p ↔ _
    rw [List.mem_append, mem_allU x R]
    unfold rowU
    rw [List.mem_map]
    constructor
    · rintro (⟨r, q, h1, h2⟩ | ⟨q, h1, h2⟩)
      · exact ⟨r, q, by omega, h2⟩
      · rw [visF_mem] at h1
        exact ⟨R, q, by omega, h1.1, h1.2, h2.symm⟩
    · rintro ⟨r, q, h1, h2, h3, h4⟩
      by_cases e : r = R
      · subst e; exact Or.inr ⟨q, (visF_mem _ _ _).2 ⟨h2, h3⟩, h4.symm⟩
      · exact Or.inl ⟨r, q, by omega, h2, h3, h4⟩
theorem srt_rowS (r : Nat) : ∀ k, (rowS B P r k).Pairwise lt2
  | 0 => List.Pairwise.nil
  | k + 1 => by
    show (rowS B P r k ++ _).Pairwise lt2
    rw [List.pairwise_append]
    refine ⟨srt_rowS r k, ?_, fun x hx y hy => ?_⟩
    · split <;> simp
    · obtain ⟨h, h1, h2, h3, rfl⟩ := (mem_rowS r x k).1 hx
      split at hy
      · simp at hy
        subst hy
        rw [lt2_iff]; simp; omega
      · simp at hy
theorem srt_allS : ∀ R, (allS B P p R).Pairwise lt2
  | 0 => List.Pairwise.nil
  | R + 1 => by
    show (allS B P p R ++ rowS B P R p).Pairwise lt2
    rw [List.pairwise_append]
    refine ⟨srt_allS R, srt_rowS R p, fun x hx y hy => ?_⟩
    obtain ⟨r, h, h1, _, _, _, rfl⟩ := (mem_allS x R).1 hx
    obtain ⟨h', _, _, _, rfl⟩ := (mem_rowS R y p).1 hy
    rw [lt2_iff]; simp; omega
theorem visF_nodup (f : Nat → Bool) : ∀ k, (visF f k).Nodup
  | 0 => by simp [visF, vis]
  | k + 1 => by
    show (if f k then visF f k ++ [k] else visF f k).Nodup
    split
    · rw [List.nodup_append]
      refine ⟨visF_nodup f k, by simp, fun a ha b hb => ?_⟩
      simp at hb
      have := (visF_mem f k a).1 ha
      omega
    · exact visF_nodup f k
theorem rk_inj (he : eachB p P p = true) {a b : Nat} (ha : a < p) (hb : b < p) (e : rk P (-1) p a = rk P (-1) p b) : a = b := by
  obtain ⟨k, _, h1, h2⟩ := rk_of he (-1) ha
  obtain ⟨k', _, h3, h4⟩ := rk_of he (-1) hb
  have : k = k' := by omega
  subst this
  omega
theorem nodup_allU (he : eachB p P p = true) : ∀ R, (allU B P p R).Nodup
  | 0 => by simp [allU]
  | R + 1 => by
    show (allU B P p R ++ rowU B P p R p).Nodup
    rw [List.nodup_append]
    refine ⟨nodup_allU he R, ?_, fun a ha b hb e => ?_⟩
    · unfold rowU
      rw [List.nodup_iff_pairwise_ne, List.pairwise_map]
      refine (List.nodup_iff_pairwise_ne.1 (visF_nodup (sqO B P R (P R).toNat) p)).imp_of_mem ?_
      intro a b ha hb hab e
      simp at e
      exact hab (rk_inj he ((visF_mem _ _ _).1 ha).1 ((visF_mem _ _ _).1 hb).1 e)
    · obtain ⟨r, q, h1, _, _, h2⟩ := (mem_allU a R).1 ha
      unfold rowU at hb
      rw [List.mem_map] at hb
      obtain ⟨q', _, h3⟩ := hb
      subst e
      rw [h2] at h3
      simp at h3
      omega
theorem mem_same (hB : Fair B) (he : eachB p P p = true) (x : Pr) : x ∈ allS B P p p ↔ x ∈ allU B P p p := by
  rw [mem_allS, mem_allU]
  constructor
  · rintro ⟨r, h, h1, h2, h3, h4, rfl⟩
    have := (each_in p he h h2).1
    exact ⟨r, (P h).toNat, h1, by omega, h4, by rw [rk_is (-1) p he h h2]⟩
  · rintro ⟨r, q, h1, h2, h3, rfl⟩
    obtain ⟨k, hk, e1, e2⟩ := rk_of he (-1) h2
    have hq : (P k).toNat = q := by omega
    refine ⟨r, k, h1, hk, ?_, by rw [hq]; exact h3, by rw [e2]⟩
    rcases Nat.lt_trichotomy r k with hl | hl | hl
    · exact hl
    · subst hl
      rw [hq, (sqO_fair hB P r).2] at h3; cases h3
    · rw [(sqO_fair hB P r).1, ← hq, sqO_gone hB P r k hl] at h3; cases h3
/-- A sorted list of the edges as they come is the list of the edges in their order. -/
theorem fill_same (hB : Fair B) (he : eachB p P p = true) {l : List Pr} (hp : l.Perm (allU B P p p)) (hs : Srt l) : l = allS B P p p :=
  (srt_unique _ l (srt_allS p) hs (hp.symm.nodup (nodup_allU he p)) (fun x => by rw [mem_same hB he, hp.mem_iff])).symm

end Go.Proofs.Ytjabllghohapgah

/-
  Edges of the call's own as a list of pairs: read, grown by one, two neighbours exchanged.
-/
set_option linter.unusedVariables false
set_option linter.unusedSimpArgs false
namespace Go.Proofs.Ytjabllghohapgah
open Go.RowKit

def Lf (l : List (Int × Int)) (k : Nat) : Int := (l.getD k (0, 0)).1
def Hf (l : List (Int × Int)) (k : Nat) : Int := (l.getD k (0, 0)).2
/-- The cells of a list of edges. -/
def ecells (l : List (Int × Int)) : List Value := l.flatMap fun e => [.int .i64 e.1, .int .i64 e.2]
theorem ecells_len : ∀ l : List (Int × Int), (ecells l).length = l.length * 2
  | [] => rfl
  | e :: l => by
    have := ecells_len l
    simp [ecells] at this ⊢
    omega
theorem ecells_at : ∀ (l : List (Int × Int)) (j : Nat), j < l.length * 2 → (ecells l)[j]? = some (.int .i64 (er (Lf l) (Hf l) j))
  | [], j, h => by simp at h
  | e :: l, 0, h => by simp [ecells, er, Lf]
  | e :: l, 1, h => by simp [ecells, er, Hf]
  | e :: l, j + 2, h => by
    have := ecells_at l j (by simp at h; omega)
    have h1 : (ecells (e :: l))[j + 2]? = (ecells l)[j]? := by simp [ecells]
    rw [h1, this]
    have hd : (j + 2) / 2 = j / 2 + 1 := by omega
    have hm : (j + 2) % 2 = j % 2 := by omega
    unfold er Lf Hf
    rw [hd, hm]
    simp
theorem ecells_snoc (l : List (Int × Int)) (a b : Int) : ecells l ++ [.int .i64 a, .int .i64 b] = ecells (l ++ [(a, b)]) := by simp [ecells]

/-- The list lies in block g, from block base on, with room for cap edges. -/
def EOwn (w : World) (base g cap : Nat) (l : List (Int × Int)) : Prop := w.ownsRow base 71 2 (.slice (some ⟨g, 0, none⟩) l.length cap) l.length (ecells l)
theorem EOwn.has {w : World} {base g cap : Nat} {l : List (Int × Int)} (h : EOwn w base g cap l) : EHas w g l.length (er (Lf l) (Hf l)) := by
  obtain ⟨hl, h0 | ⟨g', cap', cur, hv, hb, hh, h1, h2, h3, h4⟩⟩ := h
  · simp at h0
  · simp at hv
    obtain ⟨rfl, rfl⟩ := hv
    refine ⟨cur, hh, by omega, fun j hj => ?_⟩
    have : (cur.toList.take (l.length * 2))[j]? = (ecells l)[j]? := by rw [h4]
    rw [List.getElem?_take_of_lt (by omega), ecells_at l j hj] at this
    simpa using this
theorem EOwn.from {w : World} {base base' g cap : Nat} {l : List (Int × Int)} (h : EOwn w base g cap l) (hb : base' ≤ base) : EOwn w base' g cap l := by
  refine ⟨h.1, ?_⟩
  rcases h.2 with hn | ⟨g', cap', cur, hv, hb', rest⟩
  · exact .inl hn
  · exact .inr ⟨g', cap', cur, hv, Nat.le_trans hb hb', rest⟩
theorem EOwn.base {w : World} {base g cap : Nat} {l : List (Int × Int)} (h : EOwn w base g cap l) : base ≤ g := (World.ownsRow.lt h g rfl).1
theorem EOwn.lt {w : World} {base g cap : Nat} {l : List (Int × Int)} (h : EOwn w base g cap l) : g < w.heap.size := (World.ownsRow.lt h g rfl).2
theorem EOwn.of_block {w w' : World} {base g cap : Nat} {l : List (Int × Int)} (h : EOwn w base g cap l) (e : w'.heap[g]? = w.heap[g]?) : EOwn w' base g cap l := by
  refine ⟨h.1, ?_⟩
  rcases h.2 with hn | ⟨g', cap', cur, hv, hb', hgg, rest⟩
  · exact .inl hn
  · simp at hv
    obtain ⟨rfl, rfl⟩ := hv
    exact .inr ⟨g, cap, cur, rfl, hb', e.trans hgg, rest⟩
theorem EOwn.below {w w' : World} {base g cap B : Nat} {l : List (Int × Int)} (h : EOwn w base g cap l) (hb : Below B w w') (hB : g < B) : EOwn w' base g cap l := h.of_block (hb.block g hB)
theorem EOwn.next {w w' : World} {base g cap : Nat} {l : List (Int × Int)} (h : EOwn w base g cap l) (hb : Below w.heap.size w w') : EOwn w' base g cap l := h.below hb h.lt
theorem EOwn.grown {w w' : World} {base g cap : Nat} {l : List (Int × Int)} {row : Option Nat} (h : EOwn w base g cap l) (hg : w.grownBy w' row) (hne : some g ≠ row) : EOwn w' base g cap l := h.of_block (hg.block g h.lt hne)
theorem EOwn.room {w : World} {base g cap : Nat} {l : List (Int × Int)} (h : EOwn w base g cap l) : l.length ≤ cap := by
  obtain ⟨hl, h0 | ⟨g', cap', cur, hv, hb, hh, h1, h2, h3, h4⟩⟩ := h
  · simp at h0
  · simp at hv
    omega
theorem EOwn.empty (w : World) {base : Nat} (hb : base ≤ w.heap.size) : EOwn (w.alloc (.cells #[] 71)) base w.heap.size 0 [] := by
  have := World.ownsRow_lit (base := base) (e := 71) (size := 2) w #[] 0 hb (by simp) (by simp)
  simpa [EOwn, ecells] using this

theorem news_edge {w : World} {B : Nat} {x y : Int} (h0 : w.cell? ⟨B, 0, none⟩ = some (.int .i64 x)) (h1 : w.cell? ⟨B, 1, none⟩ = some (.int .i64 y)) : ∀ j u, [Value.int .i64 x, .int .i64 y][j]? = some u → w.cell? ((⟨B, 0, none⟩ : Addr).add j) = some u :=
  fun j u hu => by
    match j, hu with
    | 0, hu => simp at hu; subst hu; exact h0
    | 1, hu => simp at hu; subst hu; exact h1
    | j + 2, hu => simp at hu
theorem wpList_append_edge {w : World} {ops : Array Oper} {rest : List Oper} {o : Oper} {a : Act} {Q : Exit → Act → World → Prop} (hgd : o.guard = none) (s x : Operand)
    (ho : o.op = .call { callee := .builtin .append, args := #[s, x], argTypes := #[31, 31] }) (base g cap : Nat) (l : List (Int × Int)) (hs : a.eval s = .slice (some ⟨g, 0, none⟩) l.length cap)
    (hown : EOwn w base g cap l) (B c : Nat) (v u : Int) (hx : a.eval x = .slice (some ⟨B, 0, none⟩) 1 c) (h0 : w.cell? ⟨B, 0, none⟩ = some (.int .i64 v)) (h1 : w.cell? ⟨B, 1, none⟩ = some (.int .i64 u)) (hn : l.length ≤ 1000000) (hbase : base ≤ w.heap.size)
    (h : ∀ g' cap' w', EOwn w' base g' cap' (l ++ [(v, u)]) → w.grownBy w' (some g) → (g' = g ∨ g' = w.heap.size) → wpList Try.prog ops Q rest (a.put o.dst (.slice (some ⟨g', 0, none⟩) (l.length + 1) cap')) w') : wpList Try.prog ops Q (o :: rest) a w := by
  obtain ⟨i, hi, hz0, hz1, hz2⟩ := info_parts Try.infoEdge
  refine wpList_append_lies w hgd s x 31 ho base 71 i _ 2 16 Try.underlying31 hi hz0 hz1 hz2 rfl (by omega) _ l.length (ecells l) hs hown ⟨B, 0, none⟩ 1 c [.int .i64 v, .int .i64 u] hx rfl (news_edge h0 h1) ?_ (by omega) (by unfold maxLen; omega) (by omega) hbase w.heap.size rfl ?_
  · intro u hu
    simp at hu
    rcases hu with rfl | rfl <;> rfl
  · intro g' cap' w' hown' hgrow hat hlt
    refine h g' cap' w' ?_ hgrow ?_
    · rw [ecells_snoc] at hown'
      unfold EOwn
      rw [List.length_append]
      exact hown'
    · rcases hat with e | e
      · simp [Value.ownBlock] at e; exact Or.inl e.symm
      · exact Or.inr e

theorem step_append_edge {w : World} {ops : Array Oper} {o : Oper} {a : Act} {K : Act → World → Prop} {Q : Exit → Act → World → Prop} {E : Prop} (hgd : o.guard = none) (s x : Operand)
    (ho : o.op = .call { callee := .builtin .append, args := #[s, x], argTypes := #[31, 31] }) (base g cap : Nat) (l : List (Int × Int)) (hs : a.eval s = .slice (some ⟨g, 0, none⟩) l.length cap)
    (hown : EOwn w base g cap l) (B c : Nat) (v u : Int) (hx : a.eval x = .slice (some ⟨B, 0, none⟩) 1 c) (h0 : w.cell? ⟨B, 0, none⟩ = some (.int .i64 v)) (h1 : w.cell? ⟨B, 1, none⟩ = some (.int .i64 u)) (hn : l.length ≤ 1000000) (hbase : base ≤ w.heap.size)
    (h : ∀ g' cap' w', EOwn w' base g' cap' (l ++ [(v, u)]) → w.grownBy w' (some g) → (g' = g ∨ g' = w.heap.size) → K (a.put o.dst (.slice (some ⟨g', 0, none⟩) (l.length + 1) cap')) w') :
    if Region.wanted o (yielded ops a.tmps) = true then Oper.wp Try.prog o a w K Q else E := by
  have hw : Region.wanted o (yielded ops a.tmps) = true := by simp [Region.wanted, hgd]
  rw [if_pos hw]
  obtain ⟨i, hi, hz0, hz1, hz2⟩ := info_parts Try.infoEdge
  refine wp_append_lies w s x 31 ho base 71 i _ 2 16 Try.underlying31 hi hz0 hz1 hz2 rfl (by omega) _ l.length (ecells l) hs hown ⟨B, 0, none⟩ 1 c [.int .i64 v, .int .i64 u] hx rfl (news_edge h0 h1) ?_ (by omega) (by unfold maxLen; omega) (by omega) hbase w.heap.size rfl ?_
  · intro u hu
    simp at hu
    rcases hu with rfl | rfl <;> rfl
  · intro g' cap' w' hown' hgrow hat hlt
    refine h g' cap' w' ?_ hgrow ?_
    · rw [ecells_snoc] at hown'
      unfold EOwn
      rw [List.length_append]
      exact hown'
    · rcases hat with e | e
      · simp [Value.ownBlock] at e; exact Or.inl e.symm
      · exact Or.inr e

/-- The list lies at the beginning of block g. -/
def ELies (w : World) (g : Nat) (l : List (Int × Int)) : Prop := EHas w g l.length (er (Lf l) (Hf l))
theorem ELies.at {w : World} {g : Nat} {a b : List (Int × Int)} {x : Int × Int} (h : ELies w g (a ++ x :: b)) : w.cell? ⟨g, a.length * 2, none⟩ = some (.int .i64 x.1) ∧ w.cell? ⟨g, a.length * 2 + 1, none⟩ = some (.int .i64 x.2) := by
  have h0 := EHas.cell h (j := a.length * 2) (by simp)
  have h1 := EHas.cell h (j := a.length * 2 + 1) (by simp; omega)
  rw [er0] at h0
  rw [er1] at h1
  have e : (a ++ x :: b).getD a.length (0, 0) = x := by simp [List.getD]
  unfold Lf at h0
  unfold Hf at h1
  rw [e] at h0 h1
  exact ⟨h0, h1⟩
theorem getD_swap (a b : List (Int × Int)) (x y : Int × Int) (k : Nat) : (a ++ x :: y :: b).getD k (0, 0) = if k = a.length + 1 then y else if k = a.length then x else (a ++ y :: x :: b).getD k (0, 0) := by
  by_cases h1 : k = a.length + 1
  · subst h1; rw [if_pos rfl]; simp [List.getD, List.getElem?_append_right]
  · rw [if_neg h1]
    by_cases h2 : k = a.length
    · subst h2; rw [if_pos rfl]; simp [List.getD]
    · rw [if_neg h2]
      by_cases h3 : k < a.length
      · simp [List.getD, List.getElem?_append_left h3]
      · obtain ⟨m, rfl⟩ : ∃ m, k = a.length + (m + 2) := ⟨k - a.length - 2, by omega⟩
        simp [List.getD, List.getElem?_append_right]
theorem er_swap (a b : List (Int × Int)) (x y : Int × Int) (j : Nat) :
    (if j = a.length * 2 + 1 then x.2 else if j = a.length * 2 then x.1 else if j = (a.length + 1) * 2 + 1 then y.2 else if j = (a.length + 1) * 2 then y.1 else er (Lf (a ++ y :: x :: b)) (Hf (a ++ y :: x :: b)) j) = er (Lf (a ++ x :: y :: b)) (Hf (a ++ x :: y :: b)) j := by
  unfold er Lf Hf
  rw [getD_swap a b x y (j / 2)]
  have hm : j % 2 = 0 ∨ j % 2 = 1 := by omega
  by_cases h1 : j = a.length * 2 + 1
  · have e1 : j / 2 = a.length := by omega
    have e2 : ¬ j % 2 = 0 := by omega
    rw [if_pos h1, if_neg e2, if_neg (by omega), if_pos e1]
  rw [if_neg h1]
  by_cases h2 : j = a.length * 2
  · have e1 : j / 2 = a.length := by omega
    have e2 : j % 2 = 0 := by omega
    rw [if_pos h2, if_pos e2, if_neg (by omega), if_pos e1]
  rw [if_neg h2]
  by_cases h3 : j = (a.length + 1) * 2 + 1
  · have e1 : j / 2 = a.length + 1 := by omega
    have e2 : ¬ j % 2 = 0 := by omega
    rw [if_pos h3, if_neg e2, if_pos e1]
  rw [if_neg h3]
  by_cases h4 : j = (a.length + 1) * 2
  · have e1 : j / 2 = a.length + 1 := by omega
    have e2 : j % 2 = 0 := by omega
    rw [if_pos h4, if_pos e2, if_pos e1]
  rw [if_neg h4, if_neg (show ¬ j / 2 = a.length + 1 by omega), if_neg (show ¬ j / 2 = a.length by omega)]

end Go.Proofs.Ytjabllghohapgah
