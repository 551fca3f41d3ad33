/-
  Helpers, merged: Iter, Count, TakeAway, RoundAny.
-/
import Derived.Test.YteibbknpcgcjjabPack6
import Derived.Test.YteibbknpcgcjjabPack1
import Derived.Sort.QuietIn
import Derived.BigRegion
import Derived.OrdersHeld
import Derived.Deep.RegionHeld
/-
  The program's iterator over the neighbours of a place: what it hands over, whatever the rounds do, as long as its own row can be read.
-/
set_option linter.unusedVariables false
set_option linter.unusedSimpArgs false
namespace Go.Proofs.Yteibbknpcgcjjab
open Go.RowKit Go.Shelf
attribute [local go_sem] Oper.semAt_some

theorem neighbours_any (bm : Nat) (place : Int) (w : World) :
    Calls Try.prog 114 #[.pointer (some ⟨bm, 0, none⟩), .int .i64 place] w fun e w' => e = .returned (.func (.func 123) #[] #[.pointer (some ⟨w.heap.size, 0, none⟩), .pointer (some ⟨w.heap.size + 1, 0, none⟩)]) ∧ w' = (w.alloc (.cells #[.pointer (some ⟨bm, 0, none⟩)] 134)).alloc (.cells #[.int .i64 place] 2) := by
  go_enter Try.func114, Try.ntmps114
  go_wp2
  go_ret
  exact ⟨rfl, rfl⟩
/-- What the iterator reads: its two boxes, how many places, the row of its place. -/
structure Reads (bM bP bm p place : Nat) (W : World) (f : Nat → Bool) : Prop where
  rdM : W.cell? ⟨bM, 0, none⟩ = some (.pointer (some ⟨bm, 0, none⟩))
  rdP : W.cell? ⟨bP, 0, none⟩ = some (.int .i64 (place : Int))
  rdN : W.cell? ⟨bm, 0, none⟩ = some (.int .i64 (p : Int))
  rdR : ∀ j, j < 24 → W.cell? ⟨bm, 1 + place * 24 + j, none⟩ = some (.bool (f j))
set_option maxRecDepth 100000 in
set_option maxHeartbeats 2000000 in
theorem iter_core (n : Nat) (hn : 1 ≤ n) (l bM bP bm p place : Nat) (hp : p ≤ 24) (hpl : place < 24) (J Jx : List Nat → World → Prop) (bits : List Nat → Nat → Bool) (W : World) (hJ : AbidesFrom W.heap.size J)
    (hRd : ∀ pre W1, J pre W1 → Reads bM bP bm p place W1 (bits pre))
    (hY : ∀ k W1, k < p → bits (vis bits k) k = true → J (vis bits k) W1 → YieldAt Fence.wide (n - 1) Try.prog l #[.int .i64 (k : Int)] W1 fun e W' => (e = .returned (.bool true) ∧ J (vis bits k ++ [k]) W') ∨ (e = .returned (.bool false) ∧ Jx (vis bits k ++ [k]) W'))
    (h0 : J [] W) :
    CallsIn Fence.wide n Try.prog 123 #[.func (.yield l) #[] #[], .pointer (some ⟨bM, 0, none⟩), .pointer (some ⟨bP, 0, none⟩)] W fun e W' => (∃ v, e = .returned v) ∧ (J (vis bits p) W' ∨ ∃ k, k < p ∧ bits (vis bits k) k = true ∧ Jx (vis bits k ++ [k]) W') := by
  obtain ⟨r1, r2, r3, r4⟩ := hRd _ _ h0
  refine callsIn_of_wp Try.func123 rfl trivial ?_ rfl
  simp only [Try.ntmps123, List.size_toArray, List.length_cons, List.length_nil, Nat.reduceAdd, Nat.reduceSub, Array.replicate_succ, Array.replicate_zero, List.push_toArray, List.append_toArray, List.nil_append, List.cons_append]
  gi_wp2
  clear r1 r2 r3 r4
  gi_loopw [9] (fun i wr => ∃ k : Nat, k ≤ p ∧ i = .int .i64 k ∧ J (vis bits k) wr) (fun i _ => p - (intOf i).toNat)
  case atStart => exact ⟨0, Nat.zero_le _, rfl, h0⟩
  case round =>
    obtain ⟨k, hk, rfl, hJk⟩ := hrel
    by_cases hlt : k < p
    rotate_left
    · have hkp : k = p := by omega
      subst hkp
      gi_wp2
      go_end0
      exact ⟨⟨_, rfl⟩, .inl hJk⟩
    have hlt' : (k : Int) < (p : Int) := by omega
    obtain ⟨r1, r2, r3, r4⟩ := hRd _ _ hJk
    have r5 := r4 k (by omega)
    have hpl' : (place : Int) < 24 := by omega
    have hk24 : (k : Int) < 24 := by omega
    cases hb : bits (vis bits k) k
    · have hv : Hid (vis bits (k + 1) = vis bits k) := by
        show (if bits (vis bits k) k then _ else _) = _
        rw [hb]; rfl
      rw [hb] at r5
      clear r4
      gi_wp2
      refine wpIn_region_quiet_lit rfl (by kernel_rfl) (by kernel_rfl) ?_
      repeat (gi_big_quiet_step (fail))
      refine BigFrame.wpQuietIn_skip (fun _ _ _ _ => trivial) rfl ?_
      simp only [go_sem, Act.put, List.setIfInBounds_toArray, List.set_cons_succ, List.set_cons_zero]
      repeat (gi_big_quiet_step (fail))
      refine wpQuietIn_nil ?_
      intro _ hw'
      obtain ⟨nq, hw''⟩ := hw'
      subst hw''
      gi_wp2
      go_roundw
      case rel => exact ⟨k + 1, by omega, by go_num, by rw [hv.out]; exact hJ _ _ _ none hJk ⟨rfl, rfl, rfl, Nat.le_refl _, fun _ _ _ => rfl⟩ (fun r e => by cases e)⟩
      case measure => simp [intOf]; omega
    · have hv : Hid (vis bits (k + 1) = vis bits k ++ [k]) := by
        show (if bits (vis bits k) k then _ else _) = _
        rw [hb]; rfl
      rw [hb] at r5
      clear r4
      obtain ⟨fn, tmps, assign, body, hy, hR⟩ := hY k wr.drew hlt hb (hJ _ _ _ none hJk ⟨rfl, rfl, rfl, Nat.le_refl _, fun _ _ _ => rfl⟩ (fun r e => by cases e))
      have hR' := hR.mono (R' := fun e W' => ∃ b : Bool, e = .returned (.bool b) ∧ ((b = true ∧ J (vis bits k ++ [k]) W') ∨ (b = false ∧ Jx (vis bits k ++ [k]) W'))) (fun e W' h => by
        rcases h with ⟨h1, h2⟩ | ⟨h1, h2⟩
        · exact ⟨true, h1, .inl ⟨rfl, h2⟩⟩
        · exact ⟨false, h1, .inr ⟨rfl, h2⟩⟩)
      clear hR
      gi_wp2
      gi_region_with (refine hR'.mono ?_; rintro e W3 ⟨b, rfl, hor⟩)
      all_goals
        rcases hor with ⟨rfl, hJ3⟩ | ⟨rfl, hJx3⟩
        · gi_wp2
          go_roundw
          case rel => exact ⟨k + 1, by omega, by go_num, by rw [hv.out]; exact hJ3⟩
          case measure => simp [intOf]; omega
        · gi_wp2
          refine bodyPost_ret (results_none rfl _ _ _) rfl ?_
          exact ⟨⟨_, rfl⟩, .inr ⟨k, hlt, hb, hJx3⟩⟩

end Go.Proofs.Yteibbknpcgcjjab

/-
  The program's count of a place's neighbours, which leaves off at a limit.
-/
set_option linter.unusedVariables false
set_option linter.unusedSimpArgs false
namespace Go.Proofs.Yteibbknpcgcjjab
open Go.RowKit Go.Shelf
attribute [local go_sem] Oper.semAt_some

theorem Reads.grown {bM bP bm p place : Nat} {W W' : World} {f : Nat → Bool} {row : Option Nat} (h : Reads bM bP bm p place W f) (hg : W.grownBy W' row) (hr : ∀ r, row = some r → ∃ o : Obj, W.heap[r]? = some o ∧ o.isCells = false) : Reads bM bP bm p place W' f :=
  ⟨cell_kept h.rdM hg hr, cell_kept h.rdP hg hr, cell_kept h.rdN hg hr, fun j hj => cell_kept (h.rdR j hj) hg hr⟩
theorem Reads.of_mesh {bM bP bm p place : Nat} {W : World} {B : Nat → Nat → Bool} {gone : Nat → Bool} (hp : place < 24) (h1 : W.cell? ⟨bM, 0, none⟩ = some (.pointer (some ⟨bm, 0, none⟩))) (h2 : W.cell? ⟨bP, 0, none⟩ = some (.int .i64 (place : Int))) (h : MeshAt W bm (p : Int) B gone) : Reads bM bP bm p place W (B place) :=
  ⟨h1, h2, h.places, fun j hj => h.at hp hj⟩
/-- Over a row that no round turns: all that are there, in their order; or a part, where a round has said 'no more'. -/
theorem iter_stops (n : Nat) (hn : 1 ≤ n) (bM bP bm p place : Nat) (f : Nat → Bool) (hp : p ≤ 24) (hpl : place < 24) (w : World) (hR : Reads bM bP bm p place w f) :
    SeqStopsK Fence.wide n Try.prog 123 #[.pointer (some ⟨bM, 0, none⟩), .pointer (some ⟨bP, 0, none⟩)] (fun x : Nat => #[Value.int .i64 (x : Int)]) (fun W W' => Reads bM bP bm p place W f → Reads bM bP bm p place W' f) (fun xs => xs = visF f p) (fun pre => ∃ k, k < p ∧ f k = true ∧ pre = visF f k ++ [k]) 25 w := fun l J Jx W hW hJ hJx hY h0 => by
  have hRW : Reads bM bP bm p place W f := hR.grown (row := none) ⟨hW.os, hW.tape, hW.output, hW.size, fun k hk _ => hW.block k hk⟩ (fun r e => by cases e)
  refine (iter_core n hn l bM bP bm p place hp hpl (fun pre W => J pre W ∧ Reads bM bP bm p place W f) Jx (fun _ => f) W ?_ (fun _ _ h => h.2) ?_ ⟨h0, hRW⟩).mono ?_
  · rintro s A B row ⟨h1, h2⟩ hg hr
    exact ⟨hJ s A B row h1 hg hr, h2.grown hg (fun r e => by obtain ⟨_, o, ho, hw⟩ := hr r e; exact ⟨o, ho, Obj.not_cells_of_walk hw⟩)⟩
  · rintro k W1 hk hb ⟨h1, h2⟩
    obtain ⟨fn, tmps, assign, body, hy, hR1⟩ := hY (visF f k) k W1 h1 (by rw [visF_len]; have := cntB_le f k; omega)
    refine ⟨fn, tmps, assign, body, hy, hR1.mono ?_⟩
    rintro e W' (⟨h3, h4, h5⟩ | ⟨h3, h4⟩)
    · exact .inl ⟨h3, h4, h5 h2⟩
    · exact .inr ⟨h3, h4⟩
  · rintro e W' ⟨hv, (⟨h1, _⟩ | ⟨k, hk, hb, h1⟩)⟩
    · exact ⟨hv, .inl ⟨_, rfl, h1⟩⟩
    · exact ⟨hv, .inr ⟨_, ⟨k, hk, hb, rfl⟩, h1⟩⟩

end Go.Proofs.Yteibbknpcgcjjab

/-
  The program's takeAway: the mesh behind it is the one that the document asks for.
-/
set_option linter.unusedVariables false
set_option linter.unusedSimpArgs false
namespace Go.Proofs.Yteibbknpcgcjjab
open Go.RowKit Go.Shelf
attribute [local go_sem] Oper.semAt_some

/-- The iterator for a caller whose own invariant tells the row. -/
theorem iter_seq (n : Nat) (hn : 1 ≤ n) (bM bP bm p place : Nat) (hp : p ≤ 24) (hpl : place < 24) (I : List Nat → World → Prop) (bits : List Nat → Nat → Bool) (hI : ∀ pre W, I pre W → Reads bM bP bm p place W (bits pre)) (G : List Nat → Nat → Prop) (hG : ∀ k, k < p → bits (vis bits k) k = true → G (vis bits k) k) (w : World) :
    SeqAt Fence.wide n Try.prog 123 #[.pointer (some ⟨bM, 0, none⟩), .pointer (some ⟨bP, 0, none⟩)] (fun x : Nat => #[Value.int .i64 (x : Int)]) I G (fun xs => xs = vis bits p) w := fun l J W hW hJ hJI hY h0 => by
  refine (iter_core n hn l bM bP bm p place hp hpl J (fun _ _ => False) bits W hJ (fun pre W1 h => hI _ _ (hJI _ _ h)) ?_ h0).mono ?_
  · intro k W1 hk hb hj
    exact (hY _ _ _ hj (hG k hk hb)).mono (fun e W' h => .inl h)
  · rintro e W' ⟨hv, (h1 | ⟨k, _, _, h1⟩)⟩
    · exact ⟨hv, _, rfl, h1⟩
    · exact h1.elim

theorem SeqAt.inRound {α : Type} {F : Fence} {n : Nat} {P : Program} {gf : Nat} {lb : Array Value} {encs : α → Array Value} {I : List α → World → Prop} {G : List α → α → Prop} {S : List α → Prop} {w : World} (l : Nat) (h : SeqAt F n P gf lb encs I G S w) : SeqAt (F.inRound l) n P gf lb encs I G S w := h

/-- What stands while a place is taken away: four boxes, the mesh; nothing else that lay has turned. -/
structure TW (w : World) (bm : Nat) (p : Int) (a : Nat) (gone : Nat → Bool) (B : Nat → Nat → Bool) (W : World) : Prop where
  b0 : Boxed W w.heap.size 134 (.pointer (some ⟨bm, 0, none⟩))
  b1 : Boxed W (w.heap.size + 1) 2 (.int .i64 (a : Int))
  b2 : Boxed W (w.heap.size + 1 + 1) 134 (.pointer (some ⟨bm, 0, none⟩))
  b3 : Boxed W (w.heap.size + 1 + 1 + 1) 2 (.int .i64 (a : Int))
  mesh : MeshAt W bm p B gone
  gr : w.grownBy W (some bm)
theorem TW.grown {w W W' : World} {bm : Nat} {p : Int} {a : Nat} {gone : Nat → Bool} {B : Nat → Nat → Bool} {row : Option Nat} (h : TW w bm p a gone B W) (hb : bm < w.heap.size) (hg : W.grownBy W' row) (hr : ∀ r, row = some r → w.heap.size + 1 + 1 + 1 < r) : TW w bm p a gone B W' := by
  have hne : ∀ k, k ≤ w.heap.size + 1 + 1 + 1 → some k ≠ row := fun k hk e => by have := hr k e.symm; omega
  refine ⟨h.b0.kept hg (hne _ (by omega)), h.b1.kept hg (hne _ (by omega)), h.b2.kept hg (hne _ (by omega)), h.b3.kept hg (hne _ (by omega)), VHas.grown h.mesh hg (hne _ (by omega)), ?_⟩
  refine ⟨hg.os.trans h.gr.os, hg.tape.trans h.gr.tape, hg.output.trans h.gr.output, Nat.le_trans h.gr.size hg.size, fun k hk hnk => ?_⟩
  exact (hg.block k (Nat.lt_of_lt_of_le hk h.gr.size) (hne k (by omega))).trans (h.gr.block k hk hnk)
theorem TW.alloc {w W : World} {bm : Nat} {p : Int} {a : Nat} {gone : Nat → Bool} {B : Nat → Nat → Bool} (h : TW w bm p a gone B W) (hb : bm < w.heap.size) (o : Obj) : TW w bm p a gone B (W.alloc o) := h.grown hb (World.grownBy_alloc W o none) (fun r e => by cases e)
theorem TW.turn {w W W' : World} {bm : Nat} {p : Int} {a : Nat} {gone : Nat → Bool} {B B' : Nat → Nat → Bool} (h : TW w bm p a gone B W) (hb : bm < w.heap.size) (hm : MeshAt W' bm p B' gone) (hg : W.grownBy W' (some bm)) : TW w bm p a gone B' W' :=
  ⟨h.b0.kept hg (by simp; omega), h.b1.kept hg (by simp; omega), h.b2.kept hg (by simp; omega), h.b3.kept hg (by simp; omega), hm, h.gr.trans hg⟩
theorem TW.same {w W : World} {bm : Nat} {p : Int} {a : Nat} {gone : Nat → Bool} {B B' : Nat → Nat → Bool} (h : TW w bm p a gone B W) (e : ∀ x y, B x y = B' x y) : TW w bm p a gone B' W :=
  ⟨h.b0, h.b1, h.b2, h.b3, h.mesh.same (fun x y _ _ => e x y), h.gr⟩
theorem TW.own {β : Type} {w : World} {bm : Nat} {p : Int} {a : Nat} {gone : Nat → Bool} {B0 : Nat} (hb : bm < w.heap.size) (hB : w.heap.size + 1 + 1 + 1 < B0) (f : β → Nat → Nat → Bool) : OwnFrom B0 (fun s W => TW w bm p a gone (f s) W) :=
  fun s X Y row hs hg hr => hs.grown hb hg (fun r e => by have := (hr r e).1; omega)
theorem keeps_grown {B0 bm : Nat} {W W' : World} (hb : bm < B0) (hg : W.grownBy W' (some bm)) : KeepsFrom B0 W W' := KeepsFrom.of_grownBy hg (fun j e => by cases e; exact hb)

set_option maxRecDepth 100000 in
set_option maxHeartbeats 8000000 in
theorem takeAway_any (bm p a : Nat) (B : Nat → Nat → Bool) (gone : Nat → Bool) (hp : p ≤ 24) (ha : a < p) (hB : Fair B) (hW : Within p B) (w : World) (hM : MeshAt w bm (p : Int) B gone) :
    Calls Try.prog 115 #[.pointer (some ⟨bm, 0, none⟩), .int .i64 (a : Int)] w fun e w' => e = .returned (.tuple #[]) ∧ MeshAt w' bm (p : Int) (tk B a) (goneU gone a) ∧ w.grownBy w' (some bm) := by
  have hml := VHas.lt hM
  refine (callsIn_wide (n := 8)).1 ?_
  refine callsIn_of_wp_marks Try.func115 rfl trivial ?_ rfl
  simp only [Try.ntmps115, List.size_toArray, List.length_cons, List.length_nil, Nat.reduceAdd, Nat.reduceSub, Array.replicate_succ, Array.replicate_zero, List.push_toArray, List.append_toArray, List.nil_append, List.cons_append]
  gi_wp2_with (refine ⟨trivial, ?_⟩; gi_at_call 114; refine (callsIn_wide.2 (neighbours_any bm (a : Int) _)).mono ?_; rintro e w' ⟨rfl, rfl⟩)
  have h0 := (((Boxed.new w 134 (.pointer (some ⟨bm, 0, none⟩))).alloc (.cells #[.int .i64 (a : Int)] 2)).alloc (.cells #[.pointer (some ⟨bm, 0, none⟩)] 134)).alloc (.cells #[.int .i64 (a : Int)] 2)
  have h1 := ((Boxed.new (w.alloc (.cells #[.pointer (some ⟨bm, 0, none⟩)] 134)) 2 (.int .i64 (a : Int))).alloc (.cells #[.pointer (some ⟨bm, 0, none⟩)] 134)).alloc (.cells #[.int .i64 (a : Int)] 2)
  have h2 := (Boxed.new ((w.alloc (.cells #[.pointer (some ⟨bm, 0, none⟩)] 134)).alloc (.cells #[.int .i64 (a : Int)] 2)) 134 (.pointer (some ⟨bm, 0, none⟩))).alloc (.cells #[.int .i64 (a : Int)] 2)
  have h3 := Boxed.new (((w.alloc (.cells #[.pointer (some ⟨bm, 0, none⟩)] 134)).alloc (.cells #[.int .i64 (a : Int)] 2)).alloc (.cells #[.pointer (some ⟨bm, 0, none⟩)] 134)) 2 (.int .i64 (a : Int))
  simp only [World.size_alloc] at h1 h2 h3
  have hB0 : Below w.heap.size w ((((w.alloc (.cells #[.pointer (some ⟨bm, 0, none⟩)] 134)).alloc (.cells #[.int .i64 (a : Int)] 2)).alloc (.cells #[.pointer (some ⟨bm, 0, none⟩)] 134)).alloc (.cells #[.int .i64 (a : Int)] 2)) := ((((Below.refl _ w).alloc (Nat.le_refl _) _).alloc (by simp) _).alloc (by simp; omega) _).alloc (by simp; omega) _
  have hM0 := VHas.below hM hB0 hml
  have hsz : ((((w.alloc (.cells #[.pointer (some ⟨bm, 0, none⟩)] 134)).alloc (.cells #[.int .i64 (a : Int)] 2)).alloc (.cells #[.pointer (some ⟨bm, 0, none⟩)] 134)).alloc (.cells #[.int .i64 (a : Int)] 2)).heap.size = w.heap.size + 4 := by simp
  generalize ((((w.alloc (.cells #[.pointer (some ⟨bm, 0, none⟩)] 134)).alloc (.cells #[.int .i64 (a : Int)] 2)).alloc (.cells #[.pointer (some ⟨bm, 0, none⟩)] 134)).alloc (.cells #[.int .i64 (a : Int)] 2)) = W0 at h0 h1 h2 h3 hB0 hM0 hsz ⊢
  have hT0 : TW w bm (p : Int) a gone (stI B a []) W0 := (TW.same ⟨h0, h1, h2, h3, hM0, ⟨hB0.os, hB0.tape, hB0.output, hB0.size, fun k hk _ => hB0.block k hk⟩⟩ (fun x y => (stI_start hB a x y).symm))
  clear h0 h1 h2 h3 hM0 hB0
  gi_wp2
  have hrow : ∀ (pre : List Nat) (W : World), TW w bm (p : Int) a gone (stI B a pre) W → Reads (w.heap.size + 1 + 1) (w.heap.size + 1 + 1 + 1) bm p a W ((fun (pre : List Nat) j => B a j && !pre.contains j) pre) := fun pre W h => by
    have := Reads.of_mesh (by omega) h.b2.cell h.b3.cell h.mesh
    rw [stI_row] at this
    exact this
  have hgood : ∀ k, k < p → (fun (pre : List Nat) j => B a j && !pre.contains j) (vis (fun (pre : List Nat) j => B a j && !pre.contains j) k) k = true → (fun (pre : List Nat) (x : Nat) => x < p ∧ B a x = true ∧ x ≠ a) (vis (fun (pre : List Nat) j => B a j && !pre.contains j) k) k := fun k hk hb => by
    simp only [Bool.and_eq_true] at hb
    exact ⟨hk, hb.1, fun e => by rw [e, hB.2] at hb; cases hb.1⟩
  refine range_alone rfl (by omega) (gf := 123) (lb := #[.pointer (some ⟨w.heap.size + 1 + 1, 0, none⟩), .pointer (some ⟨w.heap.size + 1 + 1 + 1, 0, none⟩)]) rfl trivial (enters_of Try.func123 (by kernel_rfl) rfl)
    (encs := fun x : Nat => #[Value.int .i64 (x : Int)]) (fun _ => rfl) (fun pre W => TW w bm (p : Int) a gone (stI B a pre) W) (TW.own hml (by omega) _) hT0
    (iter_seq 7 (by omega) (w.heap.size + 1 + 1) (w.heap.size + 1 + 1 + 1) bm p a hp (by omega) _ (fun pre j => B a j && !pre.contains j) hrow (fun pre x => x < p ∧ B a x = true ∧ x ≠ a) hgood W0)
    (fun x a' W => ∃ Bx, W0.heap.size ≤ Bx ∧ Boxed W Bx 2 (.int .i64 (x : Int)) ∧ a' = { tmps := #[.pointer (some ⟨bm, 0, none⟩), .int .i64 (a : Int), .pointer (some ⟨w.heap.size, 0, none⟩), .pointer (some ⟨w.heap.size + 1, 0, none⟩), .pointer (some ⟨Bx, 0, none⟩), undef, .pointer (some ⟨bm, 0, none⟩), .int .i64 (a : Int), .func (.func 123) #[] #[.pointer (some ⟨w.heap.size + 1 + 1, 0, none⟩), .pointer (some ⟨w.heap.size + 1 + 1 + 1, 0, none⟩)], .int .i64 (x : Int), undef, undef, undef, undef, undef, undef, undef, undef, undef, undef, undef, undef, undef, undef, undef, undef, undef], defers := [] })
    (fun x a' _ X Y row hs hg hr => by obtain ⟨Bx, h1, h2, h3⟩ := hs; exact ⟨Bx, h1, boxed_own Bx 2 (fun (_ : Unit) => Value.int .i64 (x : Int)) () X Y row h2 hg (fun r e => (hr r e).2), h3⟩)
    ?assign ?body ?done
  case assign =>
    rintro l pre x W K hi _ hK
    have hsW := hi.b3.lt
    gi_wp2
    exact hK _ _ ((KeepsOthers.alloc _ _).from _) (hi.alloc hml _) ⟨W.heap.size, by omega, Boxed.new W 2 _, rfl⟩
  case body =>
    rintro l pre x a' W hl ⟨r, hr⟩ hi ⟨hxp, hbx, hxa⟩ ⟨Bx, hBx, bX, rfl⟩
    have c0 := hi.b0.cell
    have c1 := hi.b1.cell
    have cX := bX.cell
    have hax : a ≠ x := fun e => hxa e.symm
    have hlt := (Array.getElem?_eq_some_iff.1 hr).1
    gi_wp2_with fail
    refine ⟨trivial, ?_⟩
    refine (CallsIn.inRound l (callsIn_wide.2 (part_any bm a x (p : Int) _ gone (by omega) (by omega) hax _ hi.mesh))).mono ?_
    rintro e w2 ⟨rfl, hM2, hg2⟩
    have hT2 := (hi.turn hml hM2 hg2).same (stI_part B pre hxa)
    have bX2 := bX.kept hg2 (by simp; omega)
    have hk2 : KeepsFrom W0.heap.size W w2 := keeps_grown (by omega) hg2
    have hr2 := hk2.same l _ hl hr rfl
    have d0 := hT2.b0.cell
    have d1 := hT2.b1.cell
    have hs2 := hT2.b3.lt
    clear hM2 hg2 c0 c1 cX hi bX
    gi_wp2_with fail
    refine ⟨trivial, ?_⟩
    refine (CallsIn.inRound l (callsIn_wide.2 (neighbours_any bm (a : Int) _))).mono ?_
    rintro e w' ⟨rfl, rfl⟩
    have e2 := (Boxed.new w2 134 (.pointer (some ⟨bm, 0, none⟩))).alloc (.cells #[.int .i64 (a : Int)] 2)
    have e3 := Boxed.new (w2.alloc (.cells #[.pointer (some ⟨bm, 0, none⟩)] 134)) 2 (.int .i64 (a : Int))
    simp only [World.size_alloc] at e3
    have hT3 := (hT2.alloc hml (.cells #[.pointer (some ⟨bm, 0, none⟩)] 134)).alloc hml (.cells #[.int .i64 (a : Int)] 2)
    have bX3 := (bX2.alloc (.cells #[.pointer (some ⟨bm, 0, none⟩)] 134)).alloc (.cells #[.int .i64 (a : Int)] 2)
    have hk3 := hk2.trans ((((KeepsOthers.alloc w2 (.cells #[.pointer (some ⟨bm, 0, none⟩)] 134)).trans (KeepsOthers.alloc _ (.cells #[.int .i64 (a : Int)] 2))).from W0.heap.size))
    have hr3 := hk3.same l _ hl hr rfl
    have hs3 : ((w2.alloc (.cells #[.pointer (some ⟨bm, 0, none⟩)] 134)).alloc (.cells #[.int .i64 (a : Int)] 2)).heap.size = w2.heap.size + 2 := by simp
    generalize (w2.alloc (.cells #[.pointer (some ⟨bm, 0, none⟩)] 134)).alloc (.cells #[.int .i64 (a : Int)] 2) = W3 at e2 e3 hT3 bX3 hk3 hr3 hs3 ⊢
    clear hT2 bX2 hk2 hr2 d0 d1
    have hrow2 : ∀ (pre' : List Nat) (W' : World), ((TW w bm (p : Int) a gone (stJ B a pre x pre') W' ∧ Boxed W' Bx 2 (.int .i64 (x : Int))) ∧ (Boxed W' w2.heap.size 134 (.pointer (some ⟨bm, 0, none⟩)) ∧ Boxed W' (w2.heap.size + 1) 2 (.int .i64 (a : Int)))) ∧ KeepsFrom W0.heap.size W W' → Reads w2.heap.size (w2.heap.size + 1) bm p a W' ((fun (_ : List Nat) j => B a j && !(pre ++ [x]).contains j) pre') := fun pre' W' h => by
      have := Reads.of_mesh (by omega) h.1.2.1.cell h.1.2.2.cell h.1.1.1.mesh
      rw [stJ_row] at this
      exact this
    have hgood2 : ∀ k, k < p → (fun (_ : List Nat) j => B a j && !(pre ++ [x]).contains j) (vis (fun (_ : List Nat) j => B a j && !(pre ++ [x]).contains j) k) k = true → (fun (_ : List Nat) (y : Nat) => y < p ∧ y ≠ a ∧ x ≠ y) (vis (fun (_ : List Nat) j => B a j && !(pre ++ [x]).contains j) k) k := fun k hk hb => by
      simp only [Bool.and_eq_true, contains_snoc] at hb
      show k < p ∧ k ≠ a ∧ x ≠ k
      refine ⟨hk, fun e => (by rw [e, hB.2] at hb; cases hb.1), fun e => ?_⟩
      have := hb.2
      rw [e] at this
      simp at this
    gi_wp2
    refine range_within (l₀ := l) (r₀ := r) rfl hr3 (by omega) (gf := 123) (lb := #[.pointer (some ⟨w2.heap.size, 0, none⟩), .pointer (some ⟨w2.heap.size + 1, 0, none⟩)]) rfl trivial (enters_of Try.func123 (by kernel_rfl) rfl)
      (encs := fun x : Nat => #[Value.int .i64 (x : Int)]) (fun _ => rfl) (fun pre' W' => ((TW w bm (p : Int) a gone (stJ B a pre x pre') W' ∧ Boxed W' Bx 2 (.int .i64 (x : Int))) ∧ (Boxed W' w2.heap.size 134 (.pointer (some ⟨bm, 0, none⟩)) ∧ Boxed W' (w2.heap.size + 1) 2 (.int .i64 (a : Int)))) ∧ KeepsFrom W0.heap.size W W')
      (OwnFrom.and (OwnFrom.and (OwnFrom.and (TW.own hml (by omega) _) (Own.from (boxed_own _ _ _) _)) (OwnFrom.and (Own.from (boxed_own _ _ _) _) (Own.from (boxed_own _ _ _) _))) (ownFrom_keepsFrom hk3.size)) ⟨⟨⟨hT3, bX3⟩, e2, e3⟩, hk3⟩
      ((iter_seq (8 - 1 - 1 - 1) (by omega) w2.heap.size (w2.heap.size + 1) bm p a hp (by omega) _ (fun _ j => B a j && !(pre ++ [x]).contains j) hrow2 (fun _ y => y < p ∧ y ≠ a ∧ x ≠ y) hgood2 W3).inRound l)
      (fun y a'' _ => a'' = { tmps := #[.pointer (some ⟨bm, 0, none⟩), .int .i64 (a : Int), .pointer (some ⟨w.heap.size, 0, none⟩), .pointer (some ⟨w.heap.size + 1, 0, none⟩), .pointer (some ⟨Bx, 0, none⟩), .int .i64 (y : Int), .pointer (some ⟨bm, 0, none⟩), .int .i64 (a : Int), .func (.func 123) #[] #[.pointer (some ⟨w.heap.size + 1 + 1, 0, none⟩), .pointer (some ⟨w.heap.size + 1 + 1 + 1, 0, none⟩)], .int .i64 (x : Int), .pointer (some ⟨bm, 0, none⟩), .int .i64 (a : Int), .int .i64 (x : Int), .tuple #[], .pointer (some ⟨bm, 0, none⟩), .int .i64 (a : Int), .func (.func 123) #[] #[.pointer (some ⟨w2.heap.size, 0, none⟩), .pointer (some ⟨w2.heap.size + 1, 0, none⟩)], .int .i64 (y : Int), undef, undef, undef, undef, undef, undef, undef, undef, undef], defers := [] })
      (fun _ _ _ _ _ _ hs _ _ => hs)
      ?assign2 ?body2 ?done2
    case assign2 =>
      rintro l2 pre' y W' K hi' _ hK
      gi_wp2
      exact hK _ _ (KeepsFrom.refl _ _) hi' rfl
    case body2 =>
      rintro l2 pre' y a'' W' _ _ ⟨⟨⟨hT', bX'⟩, f2, f3⟩, hk'⟩ ⟨hyp, hya, hxy⟩ rfl
      have d0 := hT'.b0.cell
      have d1 := bX'.cell
      have hsl := bX'.lt
      gi_wp2_with (refine ⟨trivial, ?_⟩; gi_at_call 122; refine (CallsIn.inRound l2 (callsIn_wide.2 (join_any bm x y (p : Int) _ gone (by omega) (by omega) hxy _ hT'.mesh))).mono ?_; rintro e w5 ⟨rfl, hM5, hg5⟩)
      exact ⟨rfl, keeps_grown (by omega) hg5, ⟨⟨(hT'.turn hml hM5 hg5).same (stJ_join B pre pre' hxa hya), bX'.kept hg5 (by simp; omega)⟩, f2.kept hg5 (by simp; omega), f3.kept hg5 (by simp; omega)⟩, hk'.trans (keeps_grown (by omega) hg5)⟩
    case done2 =>
      rintro ys W' rfl ⟨⟨⟨hT', bX'⟩, f2, f3⟩, hk'⟩
      gi_wp2
      exact ⟨rfl, hk', hT'.same (stJ_end hW hbx)⟩
  case done =>
    rintro D xs W hD rfl hi hK
    rw [vis_struck] at hi
    replace hi := hi.same (stI_end hW)
    have c0 := hi.b0.cell
    have c1 := hi.b1.cell
    have c2 := hi.mesh.gone (show a < 24 by omega)
    have z2 := VHas.frozen hi.mesh (577 + a)
    have ha' : (a : Int) < 24 := by omega
    gi_wp2
    refine wpIn_wide.2 ?_
    go_big_region
    have hM2 := hi.mesh.go (show a < 24 by omega)
    have hg2 : w.grownBy ((W.setCell ⟨bm, 577 + a, none⟩ (.bool true)).drew) (some bm) := (hi.gr.trans (gr_setCell W bm (577 + a) (.bool true))).trans ⟨rfl, rfl, rfl, Nat.le_refl _, fun _ _ _ => rfl⟩
    have hK2 : ((W.setCell ⟨bm, 577 + a, none⟩ (.bool true)).drew).heap[D]? = some (.deferred (some [])) := (KeepsOthers.setCell W _ _).same D _ hK rfl
    have hM3 : MeshAt ((W.setCell ⟨bm, 577 + a, none⟩ (.bool true)).drew) bm (p : Int) (tk B a) (goneU gone a) := VHas.of_block hM2 rfl
    refine ⟨by simp, .inl ⟨_, _, rfl, run_takeDeferred hK2, ?_⟩⟩
    refine ⟨_, results_none rfl _ _ _, rfl, VHas.of_block hM3 (World.putObj_heap_other (by omega)), ?_⟩
    refine ⟨hg2.os, hg2.tape, hg2.output, by simpa using hg2.size, fun k hk hne => ?_⟩
    rw [World.putObj_heap_other (by omega)]
    exact hg2.block k hk hne

end Go.Proofs.Yteibbknpcgcjjab

/-
  A region that draws its order, in a round of a range over a function: what holds of it in whatever order in a plain walk holds of it there. (The laws of a fence take nothing first in a round.)
-/
set_option linter.unusedVariables false
set_option linter.unusedSimpArgs false
namespace Go.Proofs.Yteibbknpcgcjjab
open Go

/-- No operation defers a call. -/
def noDefer (ops : Array Oper) : Bool := ops.all fun o => match o.op with | .defer _ => false | _ => true
theorem noDefer_at {ops : Array Oper} (h : noDefer ops = true) {i : Nat} {o : Oper} (hi : ops[i]? = some o) : ∀ c, o.op ≠ .defer c := fun c e => by
  unfold noDefer at h
  rw [Array.all_eq_true] at h
  obtain ⟨hlt, rfl⟩ := Array.getElem?_eq_some_iff.1 hi
  have := h i hlt
  rw [e] at this
  cases this
theorem oper_in {P : Program} {l n : Nat} {o : Oper} {a : Act} {w : World} {K : Act → World → Prop} {Q : Exit → Act → World → Prop} (hd : ∀ c, o.op ≠ .defer c) (h : o.wp P a w K Q) : o.wpIn (Fence.wide.inRound l) n P a w K Q := by
  refine ⟨fun _ _ => trivial, ?_⟩
  rw [Oper.semAt_plain _ _ _ hd]
  unfold Oper.wp at h
  generalize (execOp a.eval o).run P w = r at h
  cases r with
  | ok x w' =>
    cases x <;> simp only [Oper.upon, Oper.uponIn] at h ⊢ <;>
      first
        | exact h
        | exact ⟨fun hh => by simp [Fence.wide] at hh, CallsIn.inRound l (callsIn_wide.2 h)⟩
        | exact ⟨fun hh => by simp [Fence.wide] at hh, fun c cs _ => let ⟨v, w', r, s⟩ := h c cs; ⟨v, w', r, stepsIn_wide.2 s⟩⟩
        | exact h.elim
  | halt x w' => cases x <;> simp only [Oper.upon, Oper.uponIn] at h ⊢ <;> exact h
theorem any_in {P : Program} {l n : Nat} {md : Region.Mode} {ops : Array Oper} {Q : Exit → Act → World → Prop} (hd : noDefer ops = true) (hL : ¬ LetsOut Q) :
    ∀ (fuel : Nat) (listed : Array Bool) (a : Act) (w : World), wpAny P md ops Q fuel listed a w → wpAnyIn (Fence.wide.inRound l) n P md ops Q fuel listed a w
  | 0, _, _, _, h => h
  | fuel + 1, listed, a, w, h => ⟨h.1, fun i hi => by
    have h2 := h.2 i hi
    unfold wpOp at h2
    unfold wpOpIn
    cases ho : ops[i]? with
    | none =>
      rw [ho] at h2
      exact any_in hd hL fuel _ a w h2
    | some o =>
      rw [ho] at h2
      simp only at h2 ⊢
      by_cases hw : Region.wanted o (yielded ops a.tmps) = true
      · rw [if_pos hw] at h2 ⊢
        rcases h2 with h2 | ⟨_, h2⟩
        · exact Oper.wpIn_mono (fun a' w' h' => any_in hd hL fuel _ a' w' h') (oper_in (noDefer_at hd ho) h2)
        · exact absurd h2 hL
      · rw [if_neg hw] at h2 ⊢
        exact ⟨fun _ _ => trivial, any_in hd hL fuel _ _ w h2⟩⟩
theorem region_round {P : Program} {l n id : Nat} {ops : Array Oper} {Q : Exit → Act → World → Prop} {a : Act} {w : World} (S : World → Prop) (hm : P.follows .mixedOrders = true) (hd : noDefer ops = true) (hL : ¬ LetsOut Q)
    (h : wpAnyH P .any ops Q S ops.size (Array.replicate ops.size false) a w.drew) : (Code.region id ops true).wpIn (Fence.wide.inRound l) n P Q a w :=
  wpIn_region_any hm (any_in hd hL _ _ _ _ (wpAny_of_held _ _ _ _ h))

/-- Marks of loops that have ended: taken one after the other when the function leaves. -/
def marks (Ds : List Nat) : List Deferred := Ds.map fun D => { target := .collected D, args := #[] }
def Marked (w : World) (Ds : List Nat) : Prop := Ds.Nodup ∧ ∀ D ∈ Ds, w.heap[D]? = some (.deferred (some []))
theorem leaves_marks {F : Fence} {n : Nat} {P : Program} {fn : Func} {tmps : Array Value} {R : Ending → World → Prop} : ∀ (Ds : List Nat) (w : World), Marked w Ds →
    (∀ w', w'.os = w.os → w'.tape = w.tape → w'.output = w.output → w'.heap.size = w.heap.size → (∀ k, k ∉ Ds → w'.heap[k]? = w.heap[k]?) → LeavesInM F n P fn tmps R [] .returning w') → LeavesInM F n P fn tmps R (marks Ds) .returning w
  | [], w, _, h => h w rfl rfl rfl rfl (fun _ _ => rfl)
  | D :: Ds, w, ⟨hn, hD⟩, h => by
    rw [List.nodup_cons] at hn
    refine ⟨by simp, .inl ⟨D, _, rfl, run_takeDeferred (hD D (by simp)), ?_⟩⟩
    refine leaves_marks Ds _ ⟨hn.2, fun E hE => ?_⟩ (fun w' h1 h2 h3 h4 h5 => ?_)
    · rw [World.putObj_heap_other (fun e => hn.1 (by rw [← e]; exact hE))]
      exact hD E (by simp [hE])
    · refine h w' h1 h2 h3 (by rw [h4]; simp [World.putObj]) (fun k hk => ?_)
      simp at hk
      rw [h5 k hk.2, World.putObj_heap_other hk.1]

end Go.Proofs.Yteibbknpcgcjjab
