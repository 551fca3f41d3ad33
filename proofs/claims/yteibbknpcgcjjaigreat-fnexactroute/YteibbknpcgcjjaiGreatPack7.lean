/-
  Helpers, merged: TakeAway, RoundAny, FillI, FillW.
-/
import Derived.Test.YteibbknpcgcjjaiGreatPack6
import Derived.Test.YteibbknpcgcjjaiGreatPack4
import Derived.BigRegion
import Derived.OrdersHeld
import Derived.Deep.RegionHeld
import Derived.Test.YteibbknpcgcjjaiGreatPack1
import Derived.Test.YteibbknpcgcjjaiGreatPack5
/-
  The program's takeAway: the mesh behind it is the one that the document asks for.
-/
set_option linter.unusedVariables false
set_option linter.unusedSimpArgs false
namespace Go.Proofs.YteibbknpcgcjjaiGreat
open Go.RowKit Go.Shelf
attribute [local go_sem] Oper.semAt_some

/-- The iterator for a caller whose own invariant tells the row. -/
theorem iter_seq (n : Nat) (hn : 1 ≤ n) (bM bP bm p place : Nat) (hp : p ≤ 24) (hpl : place < 24) (I : List Nat → World → Prop) (bits : List Nat → Nat → Bool) (hI : ∀ pre W, I pre W → Reads bM bP bm p place W (bits pre)) (G : List Nat → Nat → Prop) (hG : ∀ k, k < p → bits (vis bits k) k = true → G (vis bits k) k) (w : World) :
    SeqAt Fence.wide n Tryz.prog 146 #[.pointer (some ⟨bM, 0, none⟩), .pointer (some ⟨bP, 0, none⟩)] (fun x : Nat => #[Value.int .i64 (x : Int)]) I G (fun xs => xs = vis bits p) w := fun l J W hW hJ hJI hY h0 => by
  refine (iter_core n hn l bM bP bm p place hp hpl J (fun _ _ => False) bits W hJ (fun pre W1 h => hI _ _ (hJI _ _ h)) ?_ h0).mono ?_
  · intro k W1 hk hb hj
    exact (hY _ _ _ hj (hG k hk hb)).mono (fun e W' h => .inl h)
  · rintro e W' ⟨hv, (h1 | ⟨k, _, _, h1⟩)⟩
    · exact ⟨hv, _, rfl, h1⟩
    · exact h1.elim

theorem SeqAt.inRound {α : Type} {F : Fence} {n : Nat} {P : Program} {gf : Nat} {lb : Array Value} {encs : α → Array Value} {I : List α → World → Prop} {G : List α → α → Prop} {S : List α → Prop} {w : World} (l : Nat) (h : SeqAt F n P gf lb encs I G S w) : SeqAt (F.inRound l) n P gf lb encs I G S w := h

/-- What stands while a place is taken away: four boxes, the mesh; nothing else that lay has turned. -/
structure TW (w : World) (bm : Nat) (p : Int) (a : Nat) (gone : Nat → Bool) (B : Nat → Nat → Bool) (W : World) : Prop where
  b0 : Boxed W w.heap.size 181 (.pointer (some ⟨bm, 0, none⟩))
  b1 : Boxed W (w.heap.size + 1) 2 (.int .i64 (a : Int))
  b2 : Boxed W (w.heap.size + 1 + 1) 181 (.pointer (some ⟨bm, 0, none⟩))
  b3 : Boxed W (w.heap.size + 1 + 1 + 1) 2 (.int .i64 (a : Int))
  mesh : MeshAt W bm p B gone
  gr : w.grownBy W (some bm)
theorem TW.grown {w W W' : World} {bm : Nat} {p : Int} {a : Nat} {gone : Nat → Bool} {B : Nat → Nat → Bool} {row : Option Nat} (h : TW w bm p a gone B W) (hb : bm < w.heap.size) (hg : W.grownBy W' row) (hr : ∀ r, row = some r → w.heap.size + 1 + 1 + 1 < r) : TW w bm p a gone B W' := by
  have hne : ∀ k, k ≤ w.heap.size + 1 + 1 + 1 → some k ≠ row := fun k hk e => by have := hr k e.symm; omega
  refine ⟨h.b0.kept hg (hne _ (by omega)), h.b1.kept hg (hne _ (by omega)), h.b2.kept hg (hne _ (by omega)), h.b3.kept hg (hne _ (by omega)), VHas.grown h.mesh hg (hne _ (by omega)), ?_⟩
  refine ⟨hg.os.trans h.gr.os, hg.tape.trans h.gr.tape, hg.output.trans h.gr.output, Nat.le_trans h.gr.size hg.size, fun k hk hnk => ?_⟩
  exact (hg.block k (Nat.lt_of_lt_of_le hk h.gr.size) (hne k (by omega))).trans (h.gr.block k hk hnk)
theorem TW.alloc {w W : World} {bm : Nat} {p : Int} {a : Nat} {gone : Nat → Bool} {B : Nat → Nat → Bool} (h : TW w bm p a gone B W) (hb : bm < w.heap.size) (o : Obj) : TW w bm p a gone B (W.alloc o) := h.grown hb (World.grownBy_alloc W o none) (fun r e => by cases e)
theorem TW.turn {w W W' : World} {bm : Nat} {p : Int} {a : Nat} {gone : Nat → Bool} {B B' : Nat → Nat → Bool} (h : TW w bm p a gone B W) (hb : bm < w.heap.size) (hm : MeshAt W' bm p B' gone) (hg : W.grownBy W' (some bm)) : TW w bm p a gone B' W' :=
  ⟨h.b0.kept hg (by simp; omega), h.b1.kept hg (by simp; omega), h.b2.kept hg (by simp; omega), h.b3.kept hg (by simp; omega), hm, h.gr.trans hg⟩
theorem TW.same {w W : World} {bm : Nat} {p : Int} {a : Nat} {gone : Nat → Bool} {B B' : Nat → Nat → Bool} (h : TW w bm p a gone B W) (e : ∀ x y, B x y = B' x y) : TW w bm p a gone B' W :=
  ⟨h.b0, h.b1, h.b2, h.b3, h.mesh.same (fun x y _ _ => e x y), h.gr⟩
theorem TW.own {β : Type} {w : World} {bm : Nat} {p : Int} {a : Nat} {gone : Nat → Bool} {B0 : Nat} (hb : bm < w.heap.size) (hB : w.heap.size + 1 + 1 + 1 < B0) (f : β → Nat → Nat → Bool) : OwnFrom B0 (fun s W => TW w bm p a gone (f s) W) :=
  fun s X Y row hs hg hr => hs.grown hb hg (fun r e => by have := (hr r e).1; omega)
theorem keeps_grown {B0 bm : Nat} {W W' : World} (hb : bm < B0) (hg : W.grownBy W' (some bm)) : KeepsFrom B0 W W' := KeepsFrom.of_grownBy hg (fun j e => by cases e; exact hb)

set_option maxRecDepth 100000 in
set_option maxHeartbeats 8000000 in
theorem takeAway_any (bm p a : Nat) (B : Nat → Nat → Bool) (gone : Nat → Bool) (hp : p ≤ 24) (ha : a < p) (hB : Fair B) (hW : Within p B) (w : World) (hM : MeshAt w bm (p : Int) B gone) :
    Calls Tryz.prog 135 #[.pointer (some ⟨bm, 0, none⟩), .int .i64 (a : Int)] w fun e w' => e = .returned (.tuple #[]) ∧ MeshAt w' bm (p : Int) (tk B a) (goneU gone a) ∧ w.grownBy w' (some bm) := by
  have hml := VHas.lt hM
  refine (callsIn_wide (n := 8)).1 ?_
  refine callsIn_of_wp_marks Tryz.func135 rfl trivial ?_ rfl
  simp only [Tryz.ntmps135, List.size_toArray, List.length_cons, List.length_nil, Nat.reduceAdd, Nat.reduceSub, Array.replicate_succ, Array.replicate_zero, List.push_toArray, List.append_toArray, List.nil_append, List.cons_append]
  gi_wp2_with (refine ⟨trivial, ?_⟩; gi_at_call 134; refine (callsIn_wide.2 (neighbours_any bm (a : Int) _)).mono ?_; rintro e w' ⟨rfl, rfl⟩)
  have h0 := (((Boxed.new w 181 (.pointer (some ⟨bm, 0, none⟩))).alloc (.cells #[.int .i64 (a : Int)] 2)).alloc (.cells #[.pointer (some ⟨bm, 0, none⟩)] 181)).alloc (.cells #[.int .i64 (a : Int)] 2)
  have h1 := ((Boxed.new (w.alloc (.cells #[.pointer (some ⟨bm, 0, none⟩)] 181)) 2 (.int .i64 (a : Int))).alloc (.cells #[.pointer (some ⟨bm, 0, none⟩)] 181)).alloc (.cells #[.int .i64 (a : Int)] 2)
  have h2 := (Boxed.new ((w.alloc (.cells #[.pointer (some ⟨bm, 0, none⟩)] 181)).alloc (.cells #[.int .i64 (a : Int)] 2)) 181 (.pointer (some ⟨bm, 0, none⟩))).alloc (.cells #[.int .i64 (a : Int)] 2)
  have h3 := Boxed.new (((w.alloc (.cells #[.pointer (some ⟨bm, 0, none⟩)] 181)).alloc (.cells #[.int .i64 (a : Int)] 2)).alloc (.cells #[.pointer (some ⟨bm, 0, none⟩)] 181)) 2 (.int .i64 (a : Int))
  simp only [World.size_alloc] at h1 h2 h3
  have hB0 : Below w.heap.size w ((((w.alloc (.cells #[.pointer (some ⟨bm, 0, none⟩)] 181)).alloc (.cells #[.int .i64 (a : Int)] 2)).alloc (.cells #[.pointer (some ⟨bm, 0, none⟩)] 181)).alloc (.cells #[.int .i64 (a : Int)] 2)) := ((((Below.refl _ w).alloc (Nat.le_refl _) _).alloc (by simp) _).alloc (by simp; omega) _).alloc (by simp; omega) _
  have hM0 := VHas.below hM hB0 hml
  have hsz : ((((w.alloc (.cells #[.pointer (some ⟨bm, 0, none⟩)] 181)).alloc (.cells #[.int .i64 (a : Int)] 2)).alloc (.cells #[.pointer (some ⟨bm, 0, none⟩)] 181)).alloc (.cells #[.int .i64 (a : Int)] 2)).heap.size = w.heap.size + 4 := by simp
  generalize ((((w.alloc (.cells #[.pointer (some ⟨bm, 0, none⟩)] 181)).alloc (.cells #[.int .i64 (a : Int)] 2)).alloc (.cells #[.pointer (some ⟨bm, 0, none⟩)] 181)).alloc (.cells #[.int .i64 (a : Int)] 2)) = W0 at h0 h1 h2 h3 hB0 hM0 hsz ⊢
  have hT0 : TW w bm (p : Int) a gone (stI B a []) W0 := (TW.same ⟨h0, h1, h2, h3, hM0, ⟨hB0.os, hB0.tape, hB0.output, hB0.size, fun k hk _ => hB0.block k hk⟩⟩ (fun x y => (stI_start hB a x y).symm))
  clear h0 h1 h2 h3 hM0 hB0
  gi_wp2
  have hrow : ∀ (pre : List Nat) (W : World), TW w bm (p : Int) a gone (stI B a pre) W → Reads (w.heap.size + 1 + 1) (w.heap.size + 1 + 1 + 1) bm p a W ((fun (pre : List Nat) j => B a j && !pre.contains j) pre) := fun pre W h => by
    have := Reads.of_mesh (by omega) h.b2.cell h.b3.cell h.mesh
    rw [stI_row] at this
    exact this
  have hgood : ∀ k, k < p → (fun (pre : List Nat) j => B a j && !pre.contains j) (vis (fun (pre : List Nat) j => B a j && !pre.contains j) k) k = true → (fun (pre : List Nat) (x : Nat) => x < p ∧ B a x = true ∧ x ≠ a) (vis (fun (pre : List Nat) j => B a j && !pre.contains j) k) k := fun k hk hb => by
    simp only [Bool.and_eq_true] at hb
    exact ⟨hk, hb.1, fun e => by rw [e, hB.2] at hb; cases hb.1⟩
  refine range_alone rfl (by omega) (gf := 146) (lb := #[.pointer (some ⟨w.heap.size + 1 + 1, 0, none⟩), .pointer (some ⟨w.heap.size + 1 + 1 + 1, 0, none⟩)]) rfl trivial (enters_of Tryz.func146 (by kernel_rfl) rfl)
    (encs := fun x : Nat => #[Value.int .i64 (x : Int)]) (fun _ => rfl) (fun pre W => TW w bm (p : Int) a gone (stI B a pre) W) (TW.own hml (by omega) _) hT0
    (iter_seq 7 (by omega) (w.heap.size + 1 + 1) (w.heap.size + 1 + 1 + 1) bm p a hp (by omega) _ (fun pre j => B a j && !pre.contains j) hrow (fun pre x => x < p ∧ B a x = true ∧ x ≠ a) hgood W0)
    (fun x a' W => ∃ Bx, W0.heap.size ≤ Bx ∧ Boxed W Bx 2 (.int .i64 (x : Int)) ∧ a' = { tmps := #[.pointer (some ⟨bm, 0, none⟩), .int .i64 (a : Int), .pointer (some ⟨w.heap.size, 0, none⟩), .pointer (some ⟨w.heap.size + 1, 0, none⟩), .pointer (some ⟨Bx, 0, none⟩), undef, .pointer (some ⟨bm, 0, none⟩), .int .i64 (a : Int), .func (.func 146) #[] #[.pointer (some ⟨w.heap.size + 1 + 1, 0, none⟩), .pointer (some ⟨w.heap.size + 1 + 1 + 1, 0, none⟩)], .int .i64 (x : Int), undef, undef, undef, undef, undef, undef, undef, undef, undef, undef, undef, undef, undef, undef, undef, undef, undef], defers := [] })
    (fun x a' _ X Y row hs hg hr => by obtain ⟨Bx, h1, h2, h3⟩ := hs; exact ⟨Bx, h1, boxed_own Bx 2 (fun (_ : Unit) => Value.int .i64 (x : Int)) () X Y row h2 hg (fun r e => (hr r e).2), h3⟩)
    ?assign ?body ?done
  case assign =>
    rintro l pre x W K hi _ hK
    have hsW := hi.b3.lt
    gi_wp2
    exact hK _ _ ((KeepsOthers.alloc _ _).from _) (hi.alloc hml _) ⟨W.heap.size, by omega, Boxed.new W 2 _, rfl⟩
  case body =>
    rintro l pre x a' W hl ⟨r, hr⟩ hi ⟨hxp, hbx, hxa⟩ ⟨Bx, hBx, bX, rfl⟩
    have c0 := hi.b0.cell
    have c1 := hi.b1.cell
    have cX := bX.cell
    have hax : a ≠ x := fun e => hxa e.symm
    have hlt := (Array.getElem?_eq_some_iff.1 hr).1
    gi_wp2_with fail
    refine ⟨trivial, ?_⟩
    refine (CallsIn.inRound l (callsIn_wide.2 (part_any bm a x (p : Int) _ gone (by omega) (by omega) hax _ hi.mesh))).mono ?_
    rintro e w2 ⟨rfl, hM2, hg2⟩
    have hT2 := (hi.turn hml hM2 hg2).same (stI_part B pre hxa)
    have bX2 := bX.kept hg2 (by simp; omega)
    have hk2 : KeepsFrom W0.heap.size W w2 := keeps_grown (by omega) hg2
    have hr2 := hk2.same l _ hl hr rfl
    have d0 := hT2.b0.cell
    have d1 := hT2.b1.cell
    have hs2 := hT2.b3.lt
    clear hM2 hg2 c0 c1 cX hi bX
    gi_wp2_with fail
    refine ⟨trivial, ?_⟩
    refine (CallsIn.inRound l (callsIn_wide.2 (neighbours_any bm (a : Int) _))).mono ?_
    rintro e w' ⟨rfl, rfl⟩
    have e2 := (Boxed.new w2 181 (.pointer (some ⟨bm, 0, none⟩))).alloc (.cells #[.int .i64 (a : Int)] 2)
    have e3 := Boxed.new (w2.alloc (.cells #[.pointer (some ⟨bm, 0, none⟩)] 181)) 2 (.int .i64 (a : Int))
    simp only [World.size_alloc] at e3
    have hT3 := (hT2.alloc hml (.cells #[.pointer (some ⟨bm, 0, none⟩)] 181)).alloc hml (.cells #[.int .i64 (a : Int)] 2)
    have bX3 := (bX2.alloc (.cells #[.pointer (some ⟨bm, 0, none⟩)] 181)).alloc (.cells #[.int .i64 (a : Int)] 2)
    have hk3 := hk2.trans ((((KeepsOthers.alloc w2 (.cells #[.pointer (some ⟨bm, 0, none⟩)] 181)).trans (KeepsOthers.alloc _ (.cells #[.int .i64 (a : Int)] 2))).from W0.heap.size))
    have hr3 := hk3.same l _ hl hr rfl
    have hs3 : ((w2.alloc (.cells #[.pointer (some ⟨bm, 0, none⟩)] 181)).alloc (.cells #[.int .i64 (a : Int)] 2)).heap.size = w2.heap.size + 2 := by simp
    generalize (w2.alloc (.cells #[.pointer (some ⟨bm, 0, none⟩)] 181)).alloc (.cells #[.int .i64 (a : Int)] 2) = W3 at e2 e3 hT3 bX3 hk3 hr3 hs3 ⊢
    clear hT2 bX2 hk2 hr2 d0 d1
    have hrow2 : ∀ (pre' : List Nat) (W' : World), ((TW w bm (p : Int) a gone (stJ B a pre x pre') W' ∧ Boxed W' Bx 2 (.int .i64 (x : Int))) ∧ (Boxed W' w2.heap.size 181 (.pointer (some ⟨bm, 0, none⟩)) ∧ Boxed W' (w2.heap.size + 1) 2 (.int .i64 (a : Int)))) ∧ KeepsFrom W0.heap.size W W' → Reads w2.heap.size (w2.heap.size + 1) bm p a W' ((fun (_ : List Nat) j => B a j && !(pre ++ [x]).contains j) pre') := fun pre' W' h => by
      have := Reads.of_mesh (by omega) h.1.2.1.cell h.1.2.2.cell h.1.1.1.mesh
      rw [stJ_row] at this
      exact this
    have hgood2 : ∀ k, k < p → (fun (_ : List Nat) j => B a j && !(pre ++ [x]).contains j) (vis (fun (_ : List Nat) j => B a j && !(pre ++ [x]).contains j) k) k = true → (fun (_ : List Nat) (y : Nat) => y < p ∧ y ≠ a ∧ x ≠ y) (vis (fun (_ : List Nat) j => B a j && !(pre ++ [x]).contains j) k) k := fun k hk hb => by
      simp only [Bool.and_eq_true, contains_snoc] at hb
      show k < p ∧ k ≠ a ∧ x ≠ k
      refine ⟨hk, fun e => (by rw [e, hB.2] at hb; cases hb.1), fun e => ?_⟩
      have := hb.2
      rw [e] at this
      simp at this
    gi_wp2
    refine range_within (l₀ := l) (r₀ := r) rfl hr3 (by omega) (gf := 146) (lb := #[.pointer (some ⟨w2.heap.size, 0, none⟩), .pointer (some ⟨w2.heap.size + 1, 0, none⟩)]) rfl trivial (enters_of Tryz.func146 (by kernel_rfl) rfl)
      (encs := fun x : Nat => #[Value.int .i64 (x : Int)]) (fun _ => rfl) (fun pre' W' => ((TW w bm (p : Int) a gone (stJ B a pre x pre') W' ∧ Boxed W' Bx 2 (.int .i64 (x : Int))) ∧ (Boxed W' w2.heap.size 181 (.pointer (some ⟨bm, 0, none⟩)) ∧ Boxed W' (w2.heap.size + 1) 2 (.int .i64 (a : Int)))) ∧ KeepsFrom W0.heap.size W W')
      (OwnFrom.and (OwnFrom.and (OwnFrom.and (TW.own hml (by omega) _) (Own.from (boxed_own _ _ _) _)) (OwnFrom.and (Own.from (boxed_own _ _ _) _) (Own.from (boxed_own _ _ _) _))) (ownFrom_keepsFrom hk3.size)) ⟨⟨⟨hT3, bX3⟩, e2, e3⟩, hk3⟩
      ((iter_seq (8 - 1 - 1 - 1) (by omega) w2.heap.size (w2.heap.size + 1) bm p a hp (by omega) _ (fun _ j => B a j && !(pre ++ [x]).contains j) hrow2 (fun _ y => y < p ∧ y ≠ a ∧ x ≠ y) hgood2 W3).inRound l)
      (fun y a'' _ => a'' = { tmps := #[.pointer (some ⟨bm, 0, none⟩), .int .i64 (a : Int), .pointer (some ⟨w.heap.size, 0, none⟩), .pointer (some ⟨w.heap.size + 1, 0, none⟩), .pointer (some ⟨Bx, 0, none⟩), .int .i64 (y : Int), .pointer (some ⟨bm, 0, none⟩), .int .i64 (a : Int), .func (.func 146) #[] #[.pointer (some ⟨w.heap.size + 1 + 1, 0, none⟩), .pointer (some ⟨w.heap.size + 1 + 1 + 1, 0, none⟩)], .int .i64 (x : Int), .pointer (some ⟨bm, 0, none⟩), .int .i64 (a : Int), .int .i64 (x : Int), .tuple #[], .pointer (some ⟨bm, 0, none⟩), .int .i64 (a : Int), .func (.func 146) #[] #[.pointer (some ⟨w2.heap.size, 0, none⟩), .pointer (some ⟨w2.heap.size + 1, 0, none⟩)], .int .i64 (y : Int), undef, undef, undef, undef, undef, undef, undef, undef, undef], defers := [] })
      (fun _ _ _ _ _ _ hs _ _ => hs)
      ?assign2 ?body2 ?done2
    case assign2 =>
      rintro l2 pre' y W' K hi' _ hK
      gi_wp2
      exact hK _ _ (KeepsFrom.refl _ _) hi' rfl
    case body2 =>
      rintro l2 pre' y a'' W' _ _ ⟨⟨⟨hT', bX'⟩, f2, f3⟩, hk'⟩ ⟨hyp, hya, hxy⟩ rfl
      have d0 := hT'.b0.cell
      have d1 := bX'.cell
      have hsl := bX'.lt
      gi_wp2_with (refine ⟨trivial, ?_⟩; gi_at_call 145; refine (CallsIn.inRound l2 (callsIn_wide.2 (join_any bm x y (p : Int) _ gone (by omega) (by omega) hxy _ hT'.mesh))).mono ?_; rintro e w5 ⟨rfl, hM5, hg5⟩)
      exact ⟨rfl, keeps_grown (by omega) hg5, ⟨⟨(hT'.turn hml hM5 hg5).same (stJ_join B pre pre' hxa hya), bX'.kept hg5 (by simp; omega)⟩, f2.kept hg5 (by simp; omega), f3.kept hg5 (by simp; omega)⟩, hk'.trans (keeps_grown (by omega) hg5)⟩
    case done2 =>
      rintro ys W' rfl ⟨⟨⟨hT', bX'⟩, f2, f3⟩, hk'⟩
      gi_wp2
      exact ⟨rfl, hk', hT'.same (stJ_end hW hbx)⟩
  case done =>
    rintro D xs W hD rfl hi hK
    rw [vis_struck] at hi
    replace hi := hi.same (stI_end hW)
    have c0 := hi.b0.cell
    have c1 := hi.b1.cell
    have c2 := hi.mesh.gone (show a < 24 by omega)
    have z2 := VHas.frozen hi.mesh (577 + a)
    have ha' : (a : Int) < 24 := by omega
    gi_wp2
    refine wpIn_wide.2 ?_
    go_big_region
    have hM2 := hi.mesh.go (show a < 24 by omega)
    have hg2 : w.grownBy ((W.setCell ⟨bm, 577 + a, none⟩ (.bool true)).drew) (some bm) := (hi.gr.trans (gr_setCell W bm (577 + a) (.bool true))).trans ⟨rfl, rfl, rfl, Nat.le_refl _, fun _ _ _ => rfl⟩
    have hK2 : ((W.setCell ⟨bm, 577 + a, none⟩ (.bool true)).drew).heap[D]? = some (.deferred (some [])) := (KeepsOthers.setCell W _ _).same D _ hK rfl
    have hM3 : MeshAt ((W.setCell ⟨bm, 577 + a, none⟩ (.bool true)).drew) bm (p : Int) (tk B a) (goneU gone a) := VHas.of_block hM2 rfl
    refine ⟨by simp, .inl ⟨_, _, rfl, run_takeDeferred hK2, ?_⟩⟩
    refine ⟨_, results_none rfl _ _ _, rfl, VHas.of_block hM3 (World.putObj_heap_other (by omega)), ?_⟩
    refine ⟨hg2.os, hg2.tape, hg2.output, by simpa using hg2.size, fun k hk hne => ?_⟩
    rw [World.putObj_heap_other (by omega)]
    exact hg2.block k hk hne

end Go.Proofs.YteibbknpcgcjjaiGreat

/-
  A region that draws its order, in a round of a range over a function: what holds of it in whatever order in a plain walk holds of it there. (The laws of a fence take nothing first in a round.)
-/
set_option linter.unusedVariables false
set_option linter.unusedSimpArgs false
namespace Go.Proofs.YteibbknpcgcjjaiGreat
open Go

/-- No operation defers a call. -/
def noDefer (ops : Array Oper) : Bool := ops.all fun o => match o.op with | .defer _ => false | _ => true
theorem noDefer_at {ops : Array Oper} (h : noDefer ops = true) {i : Nat} {o : Oper} (hi : ops[i]? = some o) : ∀ c, o.op ≠ .defer c := fun c e => by
  unfold noDefer at h
  rw [Array.all_eq_true] at h
  obtain ⟨hlt, rfl⟩ := Array.getElem?_eq_some_iff.1 hi
  have := h i hlt
  rw [e] at this
  cases this
theorem oper_in {P : Program} {l n : Nat} {o : Oper} {a : Act} {w : World} {K : Act → World → Prop} {Q : Exit → Act → World → Prop} (hd : ∀ c, o.op ≠ .defer c) (h : o.wp P a w K Q) : o.wpIn (Fence.wide.inRound l) n P a w K Q := by
  refine ⟨fun _ _ => trivial, ?_⟩
  rw [Oper.semAt_plain _ _ _ hd]
  unfold Oper.wp at h
  generalize (execOp a.eval o).run P w = r at h
  cases r with
  | ok x w' =>
    cases x <;> simp only [Oper.upon, Oper.uponIn] at h ⊢ <;>
      first
        | exact h
        | exact ⟨fun hh => by simp [Fence.wide] at hh, CallsIn.inRound l (callsIn_wide.2 h)⟩
        | exact ⟨fun hh => by simp [Fence.wide] at hh, fun c cs _ => let ⟨v, w', r, s⟩ := h c cs; ⟨v, w', r, stepsIn_wide.2 s⟩⟩
        | exact h.elim
  | halt x w' => cases x <;> simp only [Oper.upon, Oper.uponIn] at h ⊢ <;> exact h
theorem any_in {P : Program} {l n : Nat} {md : Region.Mode} {ops : Array Oper} {Q : Exit → Act → World → Prop} (hd : noDefer ops = true) (hL : ¬ LetsOut Q) :
    ∀ (fuel : Nat) (listed : Array Bool) (a : Act) (w : World), wpAny P md ops Q fuel listed a w → wpAnyIn (Fence.wide.inRound l) n P md ops Q fuel listed a w
  | 0, _, _, _, h => h
  | fuel + 1, listed, a, w, h => ⟨h.1, fun i hi => by
    have h2 := h.2 i hi
    unfold wpOp at h2
    unfold wpOpIn
    cases ho : ops[i]? with
    | none =>
      rw [ho] at h2
      exact any_in hd hL fuel _ a w h2
    | some o =>
      rw [ho] at h2
      simp only at h2 ⊢
      by_cases hw : Region.wanted o (yielded ops a.tmps) = true
      · rw [if_pos hw] at h2 ⊢
        rcases h2 with h2 | ⟨_, h2⟩
        · exact Oper.wpIn_mono (fun a' w' h' => any_in hd hL fuel _ a' w' h') (oper_in (noDefer_at hd ho) h2)
        · exact absurd h2 hL
      · rw [if_neg hw] at h2 ⊢
        exact ⟨fun _ _ => trivial, any_in hd hL fuel _ _ w h2⟩⟩
theorem region_round {P : Program} {l n id : Nat} {ops : Array Oper} {Q : Exit → Act → World → Prop} {a : Act} {w : World} (S : World → Prop) (hm : P.follows .mixedOrders = true) (hd : noDefer ops = true) (hL : ¬ LetsOut Q)
    (h : wpAnyH P .any ops Q S ops.size (Array.replicate ops.size false) a w.drew) : (Code.region id ops true).wpIn (Fence.wide.inRound l) n P Q a w :=
  wpIn_region_any hm (any_in hd hL _ _ _ _ (wpAny_of_held _ _ _ _ h))

/-- Marks of loops that have ended: taken one after the other when the function leaves. -/
def marks (Ds : List Nat) : List Deferred := Ds.map fun D => { target := .collected D, args := #[] }
def Marked (w : World) (Ds : List Nat) : Prop := Ds.Nodup ∧ ∀ D ∈ Ds, w.heap[D]? = some (.deferred (some []))
theorem leaves_marks {F : Fence} {n : Nat} {P : Program} {fn : Func} {tmps : Array Value} {R : Ending → World → Prop} : ∀ (Ds : List Nat) (w : World), Marked w Ds →
    (∀ w', w'.os = w.os → w'.tape = w.tape → w'.output = w.output → w'.heap.size = w.heap.size → (∀ k, k ∉ Ds → w'.heap[k]? = w.heap[k]?) → LeavesInM F n P fn tmps R [] .returning w') → LeavesInM F n P fn tmps R (marks Ds) .returning w
  | [], w, _, h => h w rfl rfl rfl rfl (fun _ _ => rfl)
  | D :: Ds, w, ⟨hn, hD⟩, h => by
    rw [List.nodup_cons] at hn
    refine ⟨by simp, .inl ⟨D, _, rfl, run_takeDeferred (hD D (by simp)), ?_⟩⟩
    refine leaves_marks Ds _ ⟨hn.2, fun E hE => ?_⟩ (fun w' h1 h2 h3 h4 h5 => ?_)
    · rw [World.putObj_heap_other (fun e => hn.1 (by rw [← e]; exact hE))]
      exact hD E (by simp [hE])
    · refine h w' h1 h2 h3 (by rw [h4]; simp [World.putObj]) (fun k hk => ?_)
      simp at hk
      rw [h5 k hk.2, World.putObj_heap_other hk.1]

end Go.Proofs.YteibbknpcgcjjaiGreat

/-
  The fill, the program's: the edges as they come, then sorted. For maps of at most 24 places and orders that have each place once.
-/
set_option linter.unusedVariables false
set_option linter.unusedSimpArgs false
namespace Go.Proofs.YteibbknpcgcjjaiGreat
open Go.RowKit Go.Shelf
attribute [local go_sem] Oper.semAt_some

theorem below_grownN {w w' : World} {row : Option Nat} (h : Below w.heap.size w w') : w.grownBy w' row := ⟨h.os, h.tape, h.output, h.size, fun k hk _ => h.block k hk⟩
/-- What stands while the program makes the fill. -/
structure FI (w : World) (gv : Value) (p eb kb rb bm capR : Nat) (B : Nat → Nat → Bool) (gone : Nat → Bool) (R : Nat → Int) (g c : Nat) (l : List Pr) (W : World) : Prop where
  bel : Below (w.heap.size + 1) (w.alloc (.cells #[.int .i64 (p : Int), gv] 38)) W
  ebx : Boxed W eb 40 (.slice (some ⟨g, 0, none⟩) l.length c)
  kbx : Boxed W kb 25 (.slice (some ⟨rb, 0, none⟩) p capR)
  rks : IHas W rb p R
  mesh : MeshAt W bm (p : Int) B gone
  own : EOwn W (w.heap.size + 1) g c l
  ne : ((g ≠ eb ∧ g ≠ kb ∧ g ≠ rb ∧ g ≠ bm) ∧ eb ≠ kb ∧ eb ≠ rb ∧ eb ≠ bm) ∧ (bm ≠ kb ∧ bm ≠ rb ∧ kb ≠ rb) ∧ w.heap.size + 1 ≤ eb ∧ w.heap.size + 1 ≤ kb ∧ w.heap.size + 1 ≤ rb ∧ w.heap.size + 1 ≤ bm
section
variable {w : World} {gv : Value} {p eb kb rb bm capR : Nat} {B : Nat → Nat → Bool} {gone : Nat → Bool} {R : Nat → Int} {g c : Nat} {l : List Pr} {W W' : World}
/-- Where nothing of these has turned. -/
theorem FI.kept (h : FI w gv p eb kb rb bm capR B gone R g c l W) {row : Option Nat} (hg : W.grownBy W' row) (hr : ∀ r, row = some r → w.heap.size + 1 ≤ r ∧ r ≠ eb ∧ r ≠ kb ∧ r ≠ rb ∧ r ≠ bm ∧ r ≠ g) : FI w gv p eb kb rb bm capR B gone R g c l W' := by
  have hz := h.bel.size
  simp at hz
  have key : ∀ x, (x = eb ∨ x = kb ∨ x = rb ∨ x = bm ∨ x = g) → some x ≠ row := fun x hx e => by
    have := hr x e.symm
    omega
  refine ⟨?_, h.ebx.kept hg (key _ (by simp)), h.kbx.kept hg (key _ (by simp)), h.rks.grown hg (key _ (by simp)), VHas.grown h.mesh hg (key _ (by simp)), h.own.grown hg (key _ (by simp)), h.ne⟩
  refine h.bel.trans ⟨hg.os, hg.tape, hg.output, hg.size, fun k hk => hg.block k (by omega) (fun e => ?_)⟩
  have := hr k e.symm
  omega
theorem FI.next (h : FI w gv p eb kb rb bm capR B gone R g c l W) (hb : Below W.heap.size W W') : FI w gv p eb kb rb bm capR B gone R g c l W' := h.kept (below_grownN (row := none) hb) (fun r e => by cases e)
theorem FI.taken (h : FI w gv p eb kb rb bm capR B gone R g c l W) {B' : Nat → Nat → Bool} {gone' : Nat → Bool} (hg : W.grownBy W' (some bm)) (hm : MeshAt W' bm (p : Int) B' gone') : FI w gv p eb kb rb bm capR B' gone' R g c l W' := by
  have hz := h.bel.size
  have hn := h.ne
  simp at hz
  exact ⟨h.bel.trans (gr_below hg (by omega) (by omega)), h.ebx.kept hg (by simp; omega), h.kbx.kept hg (by simp; omega), h.rks.grown hg (by simp; omega), hm, h.own.grown hg (by simp; omega), hn⟩
/-- Behind an append, whose answer has been put into the box. -/
theorem FI.longer (h : FI w gv p eb kb rb bm capR B gone R g c l W) (hg : W.grownBy W' (some g)) {g' c' : Nat} {l' : List Pr} (ho : EOwn W' (w.heap.size + 1) g' c' l') (hat : g' = g ∨ g' = W.heap.size) :
    FI w gv p eb kb rb bm capR B gone R g' c' l' (W'.setCell ⟨eb, 0, none⟩ (.slice (some ⟨g', 0, none⟩) l'.length c')) := by
  have hz := h.bel.size
  have hn := h.ne
  have h1 := h.own.base
  have h2 := h.ebx.lt
  have h3 := h.kbx.lt
  have h4 := h.rks.lt
  have h5 := VHas.lt h.mesh
  simp at hz
  have hs := gr_setCell W' eb 0 (.slice (some ⟨g', 0, none⟩) l'.length c')
  have he := h.ebx.kept hg (by simp; omega)
  have hz' := hg.size
  refine ⟨(h.bel.trans (gr_below hg (by omega) (by omega))).trans (gr_below hs (by omega) (by omega)), he.set _, (h.kbx.kept hg (by simp; omega)).kept hs (by simp; omega), (h.rks.grown hg (by simp; omega)).grown hs (by simp; omega), VHas.grown (VHas.grown h.mesh hg (by simp; omega)) hs (by simp; omega), ho.grown hs (by simp; omega), by omega⟩
/-- Where only what is no cells has turned. -/
theorem FI.other (h : FI w gv p eb kb rb bm capR B gone R g c l W) {row : Option Nat} (hg : W.grownBy W' row) (hr : ∀ r, row = some r → w.heap.size + 1 ≤ r ∧ ∃ o : Obj, W.heap[r]? = some o ∧ o.isCells = false) : FI w gv p eb kb rb bm capR B gone R g c l W' := by
  refine h.kept hg (fun r e => ?_)
  obtain ⟨h1, o, h2, h3⟩ := hr r e
  have key : ∀ k cur t m, W.heap[k]? = some (.cells cur t m) → r ≠ k := fun k cur t m hk e => by
    subst e
    rw [h2] at hk
    simp at hk
    subst hk
    cases h3
  obtain ⟨c1, e1, _⟩ := h.rks
  obtain ⟨c2, e2, _⟩ := h.mesh
  obtain ⟨c3, e3, _⟩ := h.own.has
  exact ⟨h1, key _ _ _ _ h.ebx, key _ _ _ _ h.kbx, key _ _ _ _ e1, key _ _ _ _ e2, key _ _ _ _ e3⟩
end
theorem allU_len {B : Nat → Nat → Bool} {P : Nat → Int} {p : Nat} (hp : p ≤ 24) : ∀ R, (allU B P p R).length ≤ 24 * R
  | 0 => Nat.le_refl _
  | R + 1 => by
    show (allU B P p R ++ rowU B P p R p).length ≤ _
    have h1 := allU_len (B := B) (P := P) hp R
    have h2 := cntB_le (sqO B P R (P R).toNat) p
    have h3 : (rowU B P p R p).length = cntB (sqO B P R (P R).toNat) p := by unfold rowU; rw [List.length_map, visF_len]
    rw [List.length_append, h3]; omega
theorem Marked.grown {W W' : World} {Ds : List Nat} {row : Option Nat} (h : Marked W Ds) (hg : W.grownBy W' row) (hr : ∀ D ∈ Ds, row = some D → False) : Marked W' Ds :=
  ⟨h.1, fun D hD => (hg.block D (Array.getElem?_eq_some_iff.1 (h.2 D hD)).1 (fun e => hr D hD e.symm)).trans (h.2 D hD)⟩
theorem keeps_cells {B0 b : Nat} {W W' : World} (hg : W.grownBy W' (some b)) (hc : ∃ cur t m, W.heap[b]? = some (.cells cur t m)) : KeepsFrom B0 W W' :=
  ⟨hg.size, fun k o _ hk ho => (hg.block k (Array.getElem?_eq_some_iff.1 hk).1 (fun e => by
    obtain ⟨cur, t, m, hc⟩ := hc
    simp at e
    rw [e, hc] at hk
    simp at hk
    subst hk
    cases ho)).trans hk⟩
theorem keeps_below {B0 : Nat} {W W' : World} (hb : Below W.heap.size W W') : KeepsFrom B0 W W' := ⟨hb.size, fun k o _ hk _ => (hb.block k (Array.getElem?_eq_some_iff.1 hk).1).trans hk⟩
/-- What stands while the neighbours of one place are gone through. -/
def FR (w : World) (gv : Value) (p eb kb rb bm capR : Nat) (B : Nat → Nat → Bool) (gone : Nat → Bool) (R : Nat → Int) (l0 : List Pr) (r a s0 : Nat) (Ds : List Nat) (pre : List Nat) (W : World) : Prop :=
  (∃ g c, FI w gv p eb kb rb bm capR B gone R g c (l0 ++ pre.map (fun q => ((r : Int), R q))) W ∧ g ≠ s0 ∧ g ≠ s0 + 1 ∧ g ≠ s0 + 1 + 1) ∧
    Boxed W s0 3 (.int .i64 (r : Int)) ∧ Boxed W (s0 + 1) 181 (.pointer (some ⟨bm, 0, none⟩)) ∧ Boxed W (s0 + 1 + 1) 2 (.int .i64 (a : Int)) ∧ Marked W Ds
theorem FR.own {w : World} {gv : Value} {p eb kb rb bm capR : Nat} {B : Nat → Nat → Bool} {gone : Nat → Bool} {R : Nat → Int} {l0 : List Pr} {r a s0 : Nat} {Ds : List Nat} {B0 : Nat} (hB : w.heap.size + 1 ≤ B0) (hD : ∀ D ∈ Ds, D < B0) : OwnFrom B0 (FR w gv p eb kb rb bm capR B gone R l0 r a s0 Ds) := by
  rintro pre X Y row ⟨⟨g, c, h1, h2⟩, h3, h4, h5, h6⟩ hg hr
  have key : ∀ k cur t m, X.heap[k]? = some (.cells cur t m) → some k ≠ row := fun k cur t m hk e => by
    obtain ⟨_, o, h2, h3⟩ := hr k e.symm
    rw [h2] at hk
    simp at hk
    subst hk
    cases h3
  refine ⟨⟨g, c, h1.other hg (fun j e => ⟨by have := (hr j e).1; omega, (hr j e).2⟩), h2⟩, h3.kept hg (key _ _ _ _ h3), h4.kept hg (key _ _ _ _ h4), h5.kept hg (key _ _ _ _ h5), h6.grown hg (fun D hD' e => ?_)⟩
  have := (hr D e).1
  have := hD D hD'
  omega
set_option maxRecDepth 100000 in
set_option maxHeartbeats 8000000 in
theorem implFill_walk (p : Nat) (ao : Option Addr) (n cap : Nat) (F T G : Nat → Int) (po : Option Addr) (pcap : Nat) (P : Nat → Int) (hp1 : 1 ≤ p) (hp : p ≤ 24) (hn : n ≤ 100) (hF : ∀ k, k < n → 0 ≤ F k ∧ F k < (p : Int)) (hT : ∀ k, k < n → 0 ≤ T k ∧ T k < (p : Int)) (hFT : ∀ k, k < n → F k ≠ T k) (hok : ordB (p : Int) n F T G p P = true) (w : World) (hr : Row w ao n F T G) (hq : IRow w po p P) :
    Calls Tryz.prog 114 #[.agg #[.int .i64 (p : Int), .slice ao n cap], .slice po p pcap] w fun e w' => ∃ g c, e = .returned (.slice (some ⟨g, 0, none⟩) (allS (nbA F T n) P p p).length c) ∧ (allS (nbA F T n) P p p).length ≤ c ∧ w.heap.size ≤ g ∧ ELies w' g (allS (nbA F T n) P p p) ∧ Below w.heap.size w w' := by
  have hfair : Fair (nbA F T n) := fair_nbA n (fun k hk => by have := hF k hk; have := hT k hk; have := hFT k hk; omega)
  have hwi : Within p (nbA F T n) := within_nbA n (fun k hk => by have := hF k hk; have := hT k hk; omega)
  have hmo := fun W hr' => meshOf_any p ao n cap F T G hp hn hF hT hFT W hr'
  generalize nbA F T n = B at hfair hwi hmo ⊢
  have he : eachB p P p = true := by simp [ordB, okR] at hok; exact hok.2.2.2
  have HMO : Hid (∀ W, Row W ao n F T G → Calls Tryz.prog 133 #[.agg #[.int .i64 (p : Int), .slice ao n cap]] W fun e w' => ∃ bm, e = .returned (.pointer (some ⟨bm, 0, none⟩)) ∧ W.heap.size ≤ bm ∧ MeshAt w' bm (p : Int) B (fun _ => false) ∧ Below W.heap.size W w') := hmo
  clear hF hT hFT hmo
  have hL : lenR p P = p := by simp [lenR, okR, he]; omega
  refine (callsIn_wide (n := 8)).1 ?_
  refine callsIn_of_wp_marks Tryz.func114 rfl trivial ?_ rfl
  simp only [Tryz.ntmps114, List.size_toArray, List.length_cons, List.length_nil, Nat.reduceAdd, Nat.reduceSub, Array.replicate_succ, Array.replicate_zero, List.push_toArray, List.append_toArray, List.nil_append, List.cons_append]
  gi_wp2_with fail
  refine ⟨trivial, ?_⟩
  have hA0 : Below (w.heap.size + 1) (w.alloc (.cells #[.int .i64 (p : Int), .slice ao n cap] 38)) (((w.alloc (.cells #[.int .i64 (p : Int), .slice ao n cap] 38)).alloc (.cells #[] 122)).alloc (.cells #[.slice (some ⟨w.heap.size + 1, 0, none⟩) 0 0] 40)) := ((Below.refl _ _).alloc (by simp) _).alloc (by simp) _
  have hE0 : EOwn (((w.alloc (.cells #[.int .i64 (p : Int), .slice ao n cap] 38)).alloc (.cells #[] 122)).alloc (.cells #[.slice (some ⟨w.heap.size + 1, 0, none⟩) 0 0] 40)) (w.heap.size + 1) (w.heap.size + 1) 0 [] := by
    have := EOwn.empty (w.alloc (.cells #[.int .i64 (p : Int), .slice ao n cap] 38)) (base := w.heap.size + 1) (by simp)
    simp only [World.size_alloc] at this
    exact this.next ((Below.refl _ _).alloc (Nat.le_refl _) _)
  have hX0 : Boxed (((w.alloc (.cells #[.int .i64 (p : Int), .slice ao n cap] 38)).alloc (.cells #[] 122)).alloc (.cells #[.slice (some ⟨w.heap.size + 1, 0, none⟩) 0 0] 40)) (w.heap.size + 1 + 1) 40 (.slice (some ⟨w.heap.size + 1, 0, none⟩) 0 0) := by
    have := Boxed.new ((w.alloc (.cells #[.int .i64 (p : Int), .slice ao n cap] 38)).alloc (.cells #[] 122)) 40 (.slice (some ⟨w.heap.size + 1, 0, none⟩) 0 0)
    simp only [World.size_alloc] at this
    exact this
  refine (callsIn_wide.2 (implOrderOk_any (p : Int) ao n cap F T G po p pcap P (by omega) (by omega) _ ((hr.alloc _).below hA0 (by simp)) ((hq.alloc _).below hA0 (by simp)))).mono ?_
  rintro e w1 ⟨rfl, hb1⟩
  have hA1 := below_next hA0 (by simp) hb1
  have hE1 := hE0.next hb1
  have hX1 := hX0.kept (below_grownN (row := none) hb1) (by simp)
  clear hA0 hE0 hX0 hb1
  rw [hok]
  obtain ⟨x0, x1, xs⟩ := box2 hA1
  gi_wp2_with fail
  refine ⟨trivial, ?_⟩
  refine (callsIn_wide.2 (implRanks_any po p pcap P (by omega) _ ((hq.alloc _).below hA1 (by simp)))).mono ?_
  rintro e w2 ⟨aoR, capR, rfl, hR, hb2⟩
  rw [hL] at hR ⊢
  obtain ⟨rb, rfl, hrb, hR2⟩ := hR (by omega)
  have hA2 := below_next hA1 (by simp) hb2
  have hE2 := hE1.next hb2
  have hX2 := hX1.kept (below_grownN (row := none) hb2) (by simp)
  have hel := hE1.lt
  have hxl := hX1.lt
  clear hA1 hE1 hX1 hR x0 x1
  obtain ⟨x0, x1, xs2⟩ := box2 hA2
  gi_wp2_with fail
  refine ⟨trivial, ?_⟩
  have hal := (Below.refl w2.heap.size w2).alloc (Nat.le_refl _) (.cells #[.slice (some ⟨rb, 0, none⟩) p capR] 25)
  have hA3 := below_next hA2 (by simp) hal
  have hK3 := Boxed.new w2 25 (.slice (some ⟨rb, 0, none⟩) p capR)
  refine (callsIn_wide.2 (HMO.out _ ((hr.alloc _).below hA3 (by simp)))).mono ?_
  rintro e w4 ⟨bm, rfl, hbm, hM4, hb4⟩
  have hml := VHas.lt hM4
  have hrl := hR2.lt
  have hsz2 := hb2.size
  have hI4 : FI w (.slice ao n cap) p (w.heap.size + 1 + 1) w2.heap.size rb bm capR B (fun _ => false) (rk P (-1) p) (w.heap.size + 1) 0 [] w4 := by
    refine ⟨below_next hA3 (by simp) hb4, ?_, ?_, ?_, hM4, (hE2.next hal).next hb4, ?_⟩
    · exact (hX2.alloc _).kept (below_grownN (row := none) hb4) (by simp)
    · exact hK3.kept (below_grownN (row := none) hb4) (by simp)
    · exact (hR2.below hal hrl).below hb4 (by simp; omega)
    · simp at hbm
      omega
  simp only [World.size_alloc] at hbm
  clear hA2 hA3 hE2 hX2 hK3 hR2 hM4 hb4 hb2 hal x0 x1
  generalize w2.heap.size = kb at hI4 hbm hrl ⊢
  gi_wp2_with fail
  refine wpIn_loop (fun a' w' => ∃ (r g c : Nat) (gone : Nat → Bool) (Ds : List Nat) (u8 u9 u24 u25 u26 u27 u28 u29 u30 u41 u42 u43 u44 : Value), (r ≤ p ∧ Marked w' Ds ∧ (∀ D ∈ Ds, w.heap.size + 1 ≤ D) ∧ FI w (.slice ao n cap) p (w.heap.size + 1 + 1) kb rb bm capR (sqO B P r) gone (rk P (-1) p) g c (allU B P p r) w') ∧ a' = { tmps := #[.agg #[.int .i64 (p : Int), .slice ao n cap], .slice po p pcap, .pointer (some ⟨w.heap.size, 0, none⟩), undef, .slice none 0 0, .pointer (some ⟨w.heap.size + 1 + 1, 0, none⟩), .pointer (some ⟨kb, 0, none⟩), .pointer (some ⟨bm, 0, none⟩), u8, u9, undef, .slice (some ⟨w.heap.size + 1, 0, none⟩) 0 0, .agg #[.int .i64 (p : Int), .slice ao n cap], .slice po p pcap, .bool true, .bool false, undef, .slice po p pcap, .slice (some ⟨rb, 0, none⟩) p capR, .agg #[.int .i64 (p : Int), .slice ao n cap], .pointer (some ⟨bm, 0, none⟩), .slice po p pcap, .int .i64 (p : Int), .int .i64 (r : Int), u24, u25, u26, u27, u28, u29, u30, undef, undef, undef, undef, undef, undef, undef, undef, undef, undef, u41, u42, u43, u44, undef, undef, undef], defers := marks Ds }) (fun a' _ => p - (intOf (a'.tmps.getD 23 undef)).toNat) ?start ?round
  case start => exact ⟨0, _, _, _, [], _, _, _, _, _, _, _, _, _, _, _, _, _, ⟨Nat.zero_le _, ⟨List.nodup_nil, fun D hD => by cases hD⟩, (fun D hD => by cases hD), hI4⟩, rfl⟩
  case round =>
    clear hI4
    rintro a1 wr ⟨r, g, c, gone, Ds, u8, u9, u24, u25, u26, u27, u28, u29, u30, u41, u42, u43, u44, ⟨hrp, hMk, hDg, hI⟩, rfl⟩
    by_cases hlt : r < p
    rotate_left
    · have e : r = p := by omega
      subst e
      have c1 := hI.ebx.cell
      have hlen := allU_len (B := B) (P := P) hp r
      gi_wp2_with fail
      refine ⟨trivial, ?_⟩
      refine (callsIn_wide.2 (sortBy_any g c (allU B P r r) (by omega) wr hI.own.has)).mono ?_
      rintro e w6 ⟨rfl, ⟨l', hl1, hl2, hl3, hl4⟩, hg6⟩
      have hfs := fill_same hfair he hl2 hl3
      subst hfs
      have hne := hI.ne
      have hgb := hI.own.base
      have c2 := (hI.ebx.kept hg6 (by simp; omega)).cell
      have hz := hI.bel.size
      simp at hz
      have hbel6 := hI.bel.trans (gr_below hg6 (by omega) (by omega))
      have hMk6 : Marked w6 Ds := hMk.grown hg6 (fun D hD e => by
        have h1 := hMk.2 D hD
        obtain ⟨cc, h2, _⟩ := hI.own.has
        simp at e
        subst e
        rw [h1] at h2
        cases h2)
      gi_wp2
      refine leaves_marks Ds _ hMk6 (fun w' h1 h2 h3 h4 h5 => ?_)
      have hnl : g ∉ Ds := fun hD => by
        have h1 := hMk.2 g hD
        obtain ⟨cc, h2, _⟩ := hI.own.has
        rw [h1] at h2
        cases h2
      refine ⟨_, results_tmp rfl _ _ _, g, c, by rw [hl1]; rfl, by have h := hI.own.room; omega, by omega, EHas.of_block hl4 (h5 g hnl), ?_⟩
      have hub := unbox hbel6 (Nat.le_succ _)
      exact ⟨h1.trans hub.os, h2.trans hub.tape, h3.trans hub.output, by rw [h4]; exact hub.size, fun k hk => (h5 k (fun hD => by have := hDg k hD; omega)).trans (hub.block k hk)⟩
    have hlt' : (r : Int) < (p : Int) := by omega
    have hr0 : (0 : Int) ≤ (r : Int) := by omega
    obtain ⟨ha0, ha1⟩ := (each_in p he r hlt).1
    obtain ⟨a, ha⟩ : ∃ a : Nat, P r = (a : Int) := ⟨(P r).toNat, by omega⟩
    have hap : a < p := by omega
    obtain ⟨b, o, hpo, c0⟩ := ((hq.alloc _).below hI.bel (by simp)) r hlt
    subst hpo
    rw [ha] at c0
    gi_wp2_with fail
    refine ⟨trivial, ?_⟩
    refine (callsIn_wide.2 (neighbours_any bm (a : Int) _)).mono ?_
    rintro e w5 ⟨rfl, rfl⟩
    have hz := hI.bel.size
    simp at hz
    have hgl := hI.own.lt
    have hmb := VHas.lt hI.mesh
    have hkl := hI.kbx.lt
    have hrl2 := hI.rks.lt
    have hxl2 := hI.ebx.lt
    have bR := ((Boxed.new wr 3 (.int .i64 (r : Int))).alloc (.cells #[.pointer (some ⟨bm, 0, none⟩)] 181)).alloc (.cells #[.int .i64 (a : Int)] 2)
    have bM := (Boxed.new (wr.alloc (.cells #[.int .i64 (r : Int)] 3)) 181 (.pointer (some ⟨bm, 0, none⟩))).alloc (.cells #[.int .i64 (a : Int)] 2)
    have bP := Boxed.new ((wr.alloc (.cells #[.int .i64 (r : Int)] 3)).alloc (.cells #[.pointer (some ⟨bm, 0, none⟩)] 181)) 2 (.int .i64 (a : Int))
    simp only [World.size_alloc] at bM bP
    have hB0 : Below wr.heap.size wr (((wr.alloc (.cells #[.int .i64 (r : Int)] 3)).alloc (.cells #[.pointer (some ⟨bm, 0, none⟩)] 181)).alloc (.cells #[.int .i64 (a : Int)] 2)) := (((Below.refl _ wr).alloc (Nat.le_refl _) _).alloc (by simp) _).alloc (by simp; omega) _
    have hI5 := hI.next hB0
    have hMk5 : Marked (((wr.alloc (.cells #[.int .i64 (r : Int)] 3)).alloc (.cells #[.pointer (some ⟨bm, 0, none⟩)] 181)).alloc (.cells #[.int .i64 (a : Int)] 2)) Ds := hMk.grown (below_grownN (row := none) hB0) (fun D _ e => by cases e)
    have hsz : (((wr.alloc (.cells #[.int .i64 (r : Int)] 3)).alloc (.cells #[.pointer (some ⟨bm, 0, none⟩)] 181)).alloc (.cells #[.int .i64 (a : Int)] 2)).heap.size = wr.heap.size + 3 := by simp
    generalize ((wr.alloc (.cells #[.int .i64 (r : Int)] 3)).alloc (.cells #[.pointer (some ⟨bm, 0, none⟩)] 181)).alloc (.cells #[.int .i64 (a : Int)] 2) = W0 at bR bM bP hB0 hI5 hMk5 hsz ⊢
    clear hI hMk c0
    have hDl : ∀ D ∈ Ds, D < W0.heap.size := fun D hD => (Array.getElem?_eq_some_iff.1 (hMk5.2 D hD)).1
    gi_wp2
    refine range_alone rfl (by omega) (gf := 146) (lb := #[.pointer (some ⟨wr.heap.size + 1, 0, none⟩), .pointer (some ⟨wr.heap.size + 1 + 1, 0, none⟩)]) rfl trivial (enters_of Tryz.func146 (by kernel_rfl) rfl)
      (encs := fun x : Nat => #[Value.int .i64 (x : Int)]) (fun _ => rfl) (FR w (.slice ao n cap) p (w.heap.size + 1 + 1) kb rb bm capR (sqO B P r) gone (rk P (-1) p) (allU B P p r) r a wr.heap.size Ds) ?own ?h0
      (iter_seq 7 (by omega) (wr.heap.size + 1) (wr.heap.size + 1 + 1) bm p a hp (by omega) _ (fun _ => sqO B P r a) ?reads (fun pre x => x < p ∧ pre.length ≤ 24) (fun k hk _ => ⟨hk, by
        have h1 := visF_len (sqO B P r a) k
        have h2 := cntB_le (sqO B P r a) k
        unfold visF at h1
        omega⟩) W0)
      (fun x a' _ => a' = { tmps := #[.agg #[.int .i64 (p : Int), .slice ao n cap], .slice (some ⟨b, o, none⟩) p pcap, .pointer (some ⟨w.heap.size, 0, none⟩), undef, .slice none 0 0, .pointer (some ⟨w.heap.size + 1 + 1, 0, none⟩), .pointer (some ⟨kb, 0, none⟩), .pointer (some ⟨bm, 0, none⟩), .pointer (some ⟨wr.heap.size, 0, none⟩), .int .i64 (a : Int), .int .i64 (x : Int), .slice (some ⟨w.heap.size + 1, 0, none⟩) 0 0, .agg #[.int .i64 (p : Int), .slice ao n cap], .slice (some ⟨b, o, none⟩) p pcap, .bool true, .bool false, undef, .slice (some ⟨b, o, none⟩) p pcap, .slice (some ⟨rb, 0, none⟩) p capR, .agg #[.int .i64 (p : Int), .slice ao n cap], .pointer (some ⟨bm, 0, none⟩), .slice (some ⟨b, o, none⟩) p pcap, .int .i64 (p : Int), .int .i64 (r : Int), .bool true, .int .i64 (r : Int), .pointer (some ⟨b, o + r, none⟩), .int .i64 (a : Int), .pointer (some ⟨bm, 0, none⟩), .int .i64 (a : Int), .func (.func 146) #[] #[.pointer (some ⟨wr.heap.size + 1, 0, none⟩), .pointer (some ⟨wr.heap.size + 1 + 1, 0, none⟩)], .int .i64 (x : Int), undef, undef, undef, undef, undef, undef, undef, undef, undef, u41, u42, u43, u44, undef, undef, undef], defers := [] })
      (fun _ _ _ _ _ _ hs _ _ => hs)
      ?assign ?body ?done
    case own => exact FR.own (by omega) hDl
    case h0 => exact ⟨⟨g, c, by simpa using hI5, by omega, by omega, by omega⟩, bR, bM, bP, hMk5⟩
    case reads =>
      rintro pre W ⟨⟨g', c', h1, _⟩, _, h3, h4, _⟩
      exact Reads.of_mesh (by omega) h3.cell h4.cell h1.mesh
    case assign =>
      rintro l pre x W K hi _ hK
      gi_wp2
      exact hK _ _ (KeepsFrom.refl _ _) hi rfl
    case body =>
      rintro l pre x a' W hl hrec hi ⟨hxp, hpl⟩ rfl
      gi_wp2
      obtain ⟨⟨g', c', hF, n1, n2, n3⟩, bR', bM', bP', hMk'⟩ := hi
      have hlU := allU_len (B := B) (P := P) hp r
      have hl24 : (allU B P p r ++ pre.map (fun q => ((r : Int), rk P (-1) p q))).length ≤ 1000000 := by
        rw [List.length_append, List.length_map]
        omega
      have hsn : allU B P p r ++ (pre ++ [x]).map (fun q => ((r : Int), rk P (-1) p q)) = allU B P p r ++ pre.map (fun q => ((r : Int), rk P (-1) p q)) ++ [((r : Int), rk P (-1) p x)] := by simp
      have HSN : Hid (allU B P p r ++ (pre ++ [x]).map (fun q => ((r : Int), rk P (-1) p q)) = allU B P p r ++ pre.map (fun q => ((r : Int), rk P (-1) p q)) ++ [((r : Int), rk P (-1) p x)]) := hsn
      clear hsn
      generalize allU B P p r ++ pre.map (fun q => ((r : Int), rk P (-1) p q)) = l1 at hF hl24 HSN
      have e0 := hF.ebx.cell
      have z0 := hF.ebx.frozen
      have e1 := bR'.cell
      have e2 := hF.kbx.cell
      have e5 := hF.rks.cell hxp
      have hxp' : (x : Int) < (p : Int) := by omega
      have hx0 : (0 : Int) ≤ (x : Int) := by omega
      have hS0 : (fun V : World => V.cell? ⟨wr.heap.size, 0, none⟩ = some (.int .i64 (r : Int)) ∧ V.cell? ⟨kb, 0, none⟩ = some (.slice (some ⟨rb, 0, none⟩) p capR) ∧ V.cell? ⟨rb, x, none⟩ = some (.int .i64 (rk P (-1) p x))) W.drew := ⟨e1, e2, e5⟩
      refine region_round (fun V : World => V.cell? ⟨wr.heap.size, 0, none⟩ = some (.int .i64 (r : Int)) ∧ V.cell? ⟨kb, 0, none⟩ = some (.slice (some ⟨rb, 0, none⟩) p capR) ∧ V.cell? ⟨rb, x, none⟩ = some (.int .i64 (rk P (-1) p x))) (by kernel_rfl) (by kernel_rfl) (fun ⟨_, _, h⟩ => by simp [Exit.inBlock, roundQ] at h) ?_
      refine wpAnyH_take (i := 3) (v := .int .i64 (x : Int)) rfl (by kernel_rfl) (by kernel_rfl) (by kernel_rfl) (fun _ _ _ h => h) (Or.inl ⟨by rfl, fun V hV => ?_⟩) hS0 ?_
      · obtain ⟨v1, v2, v3⟩ := hV
        go_simp
      simp only [Act.put, List.setIfInBounds_toArray, List.set_cons_succ, List.set_cons_zero]
      refine wpAnyH_take (i := 2) (v := .slice (some ⟨rb, 0, none⟩) p capR) rfl (by kernel_rfl) (by kernel_rfl) (by kernel_rfl) (fun _ _ _ h => h) (Or.inl ⟨by rfl, fun V hV => ?_⟩) hS0 ?_
      · obtain ⟨v1, v2, v3⟩ := hV
        go_simp
      simp only [Act.put, List.setIfInBounds_toArray, List.set_cons_succ, List.set_cons_zero]
      refine wpAnyH_take (i := 4) (v := .pointer (some ⟨rb, x, none⟩)) rfl (by kernel_rfl) (by kernel_rfl) (by kernel_rfl) (fun _ _ _ h => h) (Or.inl ⟨by rfl, fun V hV => ?_⟩) hS0 ?_
      · obtain ⟨v1, v2, v3⟩ := hV
        go_simp
      simp only [Act.put, List.setIfInBounds_toArray, List.set_cons_succ, List.set_cons_zero]
      refine wpAnyH_take (i := 5) (v := .int .i64 (rk P (-1) p x)) rfl (by kernel_rfl) (by kernel_rfl) (by kernel_rfl) (fun _ _ _ h => h) (Or.inl ⟨by rfl, fun V hV => ?_⟩) hS0 ?_
      · obtain ⟨v1, v2, v3⟩ := hV
        go_simp
      simp only [Act.put, List.setIfInBounds_toArray, List.set_cons_succ, List.set_cons_zero]
      refine wpAnyH_take (i := 1) (v := .int .i64 (r : Int)) rfl (by kernel_rfl) (by kernel_rfl) (by kernel_rfl) (fun _ _ _ h => h) (Or.inl ⟨by rfl, fun V hV => ?_⟩) hS0 ?_
      · obtain ⟨v1, v2, v3⟩ := hV
        go_simp
      simp only [Act.put, List.setIfInBounds_toArray, List.set_cons_succ, List.set_cons_zero]
      refine wpAnyH_take (i := 6) (v := .agg #[.int .i64 (r : Int), .int .i64 (rk P (-1) p x)]) rfl (by kernel_rfl) (by kernel_rfl) (by kernel_rfl) (fun _ _ _ h => h) (Or.inl ⟨by rfl, fun V hV => ?_⟩) hS0 ?_
      · obtain ⟨v1, v2, v3⟩ := hV
        go_simp
      simp only [Act.put, List.setIfInBounds_toArray, List.set_cons_succ, List.set_cons_zero]
      have hWA : Below W.heap.size W (W.alloc (.cells #[.int .i64 (r : Int), .int .i64 (rk P (-1) p x)] 122)).drew := ((Below.refl _ _).alloc (Nat.le_refl _) _).drew
      have hFA := hF.next hWA
      have eA0 := hFA.ebx.cell
      have hA0 : (W.alloc (.cells #[.int .i64 (r : Int), .int .i64 (rk P (-1) p x)] 122)).drew.cell? ⟨W.heap.size, 0, none⟩ = some (.int .i64 (r : Int)) := by simp [go_sem]
      have hA1 : (W.alloc (.cells #[.int .i64 (r : Int), .int .i64 (rk P (-1) p x)] 122)).drew.cell? ⟨W.heap.size, 1, none⟩ = some (.int .i64 (rk P (-1) p x)) := by simp [go_sem]
      have hAb : w.heap.size + 1 ≤ (W.alloc (.cells #[.int .i64 (r : Int), .int .i64 (rk P (-1) p x)] 122)).drew.heap.size := by have := hFA.bel.size; simpa using this
      have hFn := hF.ne
      have hS1 : (fun V : World => V.cell? ⟨wr.heap.size, 0, none⟩ = some (.int .i64 (r : Int)) ∧ V.cell? ⟨kb, 0, none⟩ = some (.slice (some ⟨rb, 0, none⟩) p capR) ∧ V.cell? ⟨rb, x, none⟩ = some (.int .i64 (rk P (-1) p x))) (W.alloc (.cells #[.int .i64 (r : Int), .int .i64 (rk P (-1) p x)] 122)).drew := ⟨keep_cell hWA (Nat.le_refl _) e1, keep_cell hWA (Nat.le_refl _) e2, keep_cell hWA (Nat.le_refl _) e5⟩
      refine wpAnyH_ready (rs := [0, 7]) (by kernel_rfl) (by simp) (AllReadyH.cons rfl (fun K hK => ?first) (AllReadyH.cons rfl (fun K hK => ?second) AllReadyH.nil))
      case first =>
        go_simp
        refine hK.out _ _ hS0 (fun _ => ?_)
        clear hK K
        refine wpAnyH_ready (rs := [7]) (by kernel_rfl) (by simp) (AllReadyH.cons rfl (fun K hK => ?_) AllReadyH.nil)
        go_simp
        refine hK.out _ _ hS1 (fun _ => ?_)
        clear hK K
        refine wpAnyH_ready (rs := [8]) (by kernel_rfl) (by simp) (AllReadyH.cons rfl (fun K hK => ?_) AllReadyH.nil)
        refine step_append_edge rfl (.tmp 32) (.tmp 39) rfl (w.heap.size + 1) g' c' l1 rfl hFA.own W.heap.size 1 (r : Int) (rk P (-1) p x) rfl hA0 hA1 hl24 hAb ?_
        intro g2 c2 w7 hown7 hgrow7 hat7
        have q1 : w7.cell? ⟨w.heap.size + 1 + 1, 0, none⟩ = some (.slice (some ⟨g', 0, none⟩) l1.length c') := hgrow7.cell eA0 (by simp; omega)
        have q2 : w7.frozen? ⟨w.heap.size + 1 + 1, 0, none⟩ = false := (hFA.ebx.kept hgrow7 (by simp; omega)).frozen
        have hS7 : (fun V : World => V.cell? ⟨wr.heap.size, 0, none⟩ = some (.int .i64 (r : Int)) ∧ V.cell? ⟨kb, 0, none⟩ = some (.slice (some ⟨rb, 0, none⟩) p capR) ∧ V.cell? ⟨rb, x, none⟩ = some (.int .i64 (rk P (-1) p x))) w7 := ⟨hgrow7.cell hS1.1 (by simp; omega), hgrow7.cell hS1.2.1 (by simp; omega), hgrow7.cell hS1.2.2 (by simp; omega)⟩
        have hS8 : (fun V : World => V.cell? ⟨wr.heap.size, 0, none⟩ = some (.int .i64 (r : Int)) ∧ V.cell? ⟨kb, 0, none⟩ = some (.slice (some ⟨rb, 0, none⟩) p capR) ∧ V.cell? ⟨rb, x, none⟩ = some (.int .i64 (rk P (-1) p x))) (w7.setCell ⟨w.heap.size + 1 + 1, 0, none⟩ (.slice (some ⟨g2, 0, none⟩) (l1.length + 1) c2)) := by
          have hs := gr_setCell w7 (w.heap.size + 1 + 1) 0 (.slice (some ⟨g2, 0, none⟩) (l1.length + 1) c2)
          exact ⟨hs.cell hS7.1 (by simp; omega), hs.cell hS7.2.1 (by simp; omega), hs.cell hS7.2.2 (by simp; omega)⟩
        have hF8 := hFA.longer hgrow7 hown7 hat7
        rw [List.length_append] at hF8
        refine hK.out _ _ hS7 (fun _ => ?_)
        clear hK K
        simp only [Act.put, List.setIfInBounds_toArray, List.set_cons_succ, List.set_cons_zero]
        refine wpAnyH_ready (rs := [9]) (by kernel_rfl) (by simp) (AllReadyH.cons rfl (fun K hK => ?_) AllReadyH.nil)
        go_simp
        refine hK.out _ _ hS8 (fun _ => ?_)
        clear hK K
        refine wpAnyH_done (by kernel_rfl) ?_ _
        have hPl := bP'.lt
        have hg2 : g2 = g' ∨ g2 = W.heap.size + 1 := by simpa using hat7
        have hst := gr_setCell w7 (w.heap.size + 1 + 1) 0 (.slice (some ⟨g2, 0, none⟩) (l1.length + 1) c2)
        have hEc := hFA.own.has
        have hMA := hMk'.grown (below_grownN (row := none) hWA) (fun D _ e => by cases e)
        refine ⟨rfl, ((keeps_below hWA).trans (keeps_cells hgrow7 (by obtain ⟨cc, h2, _⟩ := hEc; exact ⟨_, _, _, h2⟩))).trans (keeps_cells hst ⟨_, _, _, hFA.ebx.kept hgrow7 (by simp; omega)⟩), ⟨g2, c2, by rw [HSN.out]; exact hF8, by omega, by omega, by omega⟩, ?_, ?_, ?_, ?_⟩
        · exact ((bR'.kept (below_grownN (row := none) hWA) (by simp)).kept hgrow7 (by simp; omega)).kept hst (by simp; omega)
        · exact ((bM'.kept (below_grownN (row := none) hWA) (by simp)).kept hgrow7 (by simp; omega)).kept hst (by simp; omega)
        · exact ((bP'.kept (below_grownN (row := none) hWA) (by simp)).kept hgrow7 (by simp; omega)).kept hst (by simp; omega)
        · refine (hMA.grown hgrow7 (fun D hD e => ?_)).grown hst (fun D hD e => ?_)
          · simp at e
            subst e
            obtain ⟨cc, h2, _⟩ := hEc
            have := hMA.2 _ hD
            rw [h2] at this
            cases this
          · simp at e
            have := hMk'.2 D hD
            rw [← e] at this
            have h2 := hF.ebx
            unfold Boxed at h2
            rw [h2] at this
            cases this
      case second =>
        go_simp
        refine hK.out _ _ hS1 (fun _ => ?_)
        clear hK K
        refine wpAnyH_ready (rs := [0]) (by kernel_rfl) (by simp) (AllReadyH.cons rfl (fun K hK => ?_) AllReadyH.nil)
        go_simp
        refine hK.out _ _ hS1 (fun _ => ?_)
        clear hK K
        refine wpAnyH_ready (rs := [8]) (by kernel_rfl) (by simp) (AllReadyH.cons rfl (fun K hK => ?_) AllReadyH.nil)
        refine step_append_edge rfl (.tmp 32) (.tmp 39) rfl (w.heap.size + 1) g' c' l1 rfl hFA.own W.heap.size 1 (r : Int) (rk P (-1) p x) rfl hA0 hA1 hl24 hAb ?_
        intro g2 c2 w7 hown7 hgrow7 hat7
        have q1 : w7.cell? ⟨w.heap.size + 1 + 1, 0, none⟩ = some (.slice (some ⟨g', 0, none⟩) l1.length c') := hgrow7.cell eA0 (by simp; omega)
        have q2 : w7.frozen? ⟨w.heap.size + 1 + 1, 0, none⟩ = false := (hFA.ebx.kept hgrow7 (by simp; omega)).frozen
        have hS7 : (fun V : World => V.cell? ⟨wr.heap.size, 0, none⟩ = some (.int .i64 (r : Int)) ∧ V.cell? ⟨kb, 0, none⟩ = some (.slice (some ⟨rb, 0, none⟩) p capR) ∧ V.cell? ⟨rb, x, none⟩ = some (.int .i64 (rk P (-1) p x))) w7 := ⟨hgrow7.cell hS1.1 (by simp; omega), hgrow7.cell hS1.2.1 (by simp; omega), hgrow7.cell hS1.2.2 (by simp; omega)⟩
        have hS8 : (fun V : World => V.cell? ⟨wr.heap.size, 0, none⟩ = some (.int .i64 (r : Int)) ∧ V.cell? ⟨kb, 0, none⟩ = some (.slice (some ⟨rb, 0, none⟩) p capR) ∧ V.cell? ⟨rb, x, none⟩ = some (.int .i64 (rk P (-1) p x))) (w7.setCell ⟨w.heap.size + 1 + 1, 0, none⟩ (.slice (some ⟨g2, 0, none⟩) (l1.length + 1) c2)) := by
          have hs := gr_setCell w7 (w.heap.size + 1 + 1) 0 (.slice (some ⟨g2, 0, none⟩) (l1.length + 1) c2)
          exact ⟨hs.cell hS7.1 (by simp; omega), hs.cell hS7.2.1 (by simp; omega), hs.cell hS7.2.2 (by simp; omega)⟩
        have hF8 := hFA.longer hgrow7 hown7 hat7
        rw [List.length_append] at hF8
        refine hK.out _ _ hS7 (fun _ => ?_)
        clear hK K
        simp only [Act.put, List.setIfInBounds_toArray, List.set_cons_succ, List.set_cons_zero]
        refine wpAnyH_ready (rs := [9]) (by kernel_rfl) (by simp) (AllReadyH.cons rfl (fun K hK => ?_) AllReadyH.nil)
        go_simp
        refine hK.out _ _ hS8 (fun _ => ?_)
        clear hK K
        refine wpAnyH_done (by kernel_rfl) ?_ _
        have hPl := bP'.lt
        have hg2 : g2 = g' ∨ g2 = W.heap.size + 1 := by simpa using hat7
        have hst := gr_setCell w7 (w.heap.size + 1 + 1) 0 (.slice (some ⟨g2, 0, none⟩) (l1.length + 1) c2)
        have hEc := hFA.own.has
        have hMA := hMk'.grown (below_grownN (row := none) hWA) (fun D _ e => by cases e)
        refine ⟨rfl, ((keeps_below hWA).trans (keeps_cells hgrow7 (by obtain ⟨cc, h2, _⟩ := hEc; exact ⟨_, _, _, h2⟩))).trans (keeps_cells hst ⟨_, _, _, hFA.ebx.kept hgrow7 (by simp; omega)⟩), ⟨g2, c2, by rw [HSN.out]; exact hF8, by omega, by omega, by omega⟩, ?_, ?_, ?_, ?_⟩
        · exact ((bR'.kept (below_grownN (row := none) hWA) (by simp)).kept hgrow7 (by simp; omega)).kept hst (by simp; omega)
        · exact ((bM'.kept (below_grownN (row := none) hWA) (by simp)).kept hgrow7 (by simp; omega)).kept hst (by simp; omega)
        · exact ((bP'.kept (below_grownN (row := none) hWA) (by simp)).kept hgrow7 (by simp; omega)).kept hst (by simp; omega)
        · refine (hMA.grown hgrow7 (fun D hD e => ?_)).grown hst (fun D hD e => ?_)
          · simp at e
            subst e
            obtain ⟨cc, h2, _⟩ := hEc
            have := hMA.2 _ hD
            rw [h2] at this
            cases this
          · simp at e
            have := hMk'.2 D hD
            rw [← e] at this
            have h2 := hF.ebx
            unfold Boxed at h2
            rw [h2] at this
            cases this
    case done =>
      rintro D xs W hD rfl ⟨⟨g', c', hF, n1, n2, n3⟩, bR', bM', bP', hMk'⟩ hK
      have hrw : allU B P p (r + 1) = allU B P p r ++ (vis (fun _ => sqO B P r a) p).map (fun q => ((r : Int), rk P (-1) p q)) := by
        show allU B P p r ++ rowU B P p r p = _
        unfold rowU visF
        rw [show (P r).toNat = a by omega]
      rw [← hrw] at hF
      gi_wp2_with fail
      refine ⟨trivial, ?_⟩
      refine (callsIn_wide.2 (takeAway_any bm p a (sqO B P r) gone hp hap (sqO_fair hfair P r) (sqO_within hwi P r) W hF.mesh)).mono ?_
      rintro e w8 ⟨rfl, hM8, hg8⟩
      have hF8 := hF.taken hg8 hM8
      have hsq : sqO B P (r + 1) = tk (sqO B P r) a := by
        show tk (sqO B P r) (P r).toNat = _
        rw [show (P r).toNat = a by omega]
      rw [← hsq] at hF8
      have hmne : ∀ E, W.heap[E]? = some (.deferred (some [])) → E ≠ bm := fun E hE e => by
        obtain ⟨cc, h2, _⟩ := hF.mesh
        rw [e, h2] at hE
        cases hE
      have hMk8 : Marked w8 (D :: Ds) := by
        refine Marked.grown (W := W) ⟨List.nodup_cons.2 ⟨fun hD' => ?_, hMk'.1⟩, fun E hE => ?_⟩ hg8 (fun E hE e => ?_)
        · have := hDl D hD'
          omega
        · simp at hE
          rcases hE with rfl | hE
          · exact hK
          · exact hMk'.2 E hE
        · simp at e hE
          rcases hE with rfl | hE
          · exact hmne _ hK e.symm
          · exact hmne _ (hMk'.2 E hE) e.symm
      gi_wp2
      refine ⟨⟨r + 1, g', c', _, D :: Ds, _, _, _, _, _, _, _, _, _, _, _, _, _, ⟨by omega, hMk8, fun E hE => ?_, hF8⟩, by rw [show ((r + 1 : Nat) : Int) = (r : Int) + 1 by omega]; rfl⟩, ?_⟩
      · simp at hE
        rcases hE with rfl | hE
        · omega
        · exact hDg E hE
      · simp [intOf]; omega

end Go.Proofs.YteibbknpcgcjjaiGreat

/-
  The fill at every map and every list: the document's and the program's answer, in new memory.
-/
set_option linter.unusedVariables false
set_option linter.unusedSimpArgs false
namespace Go.Proofs.YteibbknpcgcjjaiGreat
open Go.RowKit
attribute [local go_sem ↓] Go.wp_at_zero Go.wp_at_succ

/-- An answer in new memory, as long as its room allows. -/
def ERoom (w w' : World) (e : Ending) (m : Nat) (L H : Nat → Int) : Prop := ∃ ao cap, e = .returned (.slice ao m cap) ∧ m ≤ cap ∧ (0 < m → ∃ g, ao = some ⟨g, 0, none⟩ ∧ w.heap.size ≤ g ∧ EHas w' g m (er L H)) ∧ Below w.heap.size w w'
set_option maxHeartbeats 1000000 in
theorem implFill_room (p : Int) (ao : Option Addr) (n cap : Nat) (F T G : Nat → Int) (po : Option Addr) (m pcap : Nat) (P : Nat → Int) (hn : n ≤ 1048576) (hm : m ≤ 1048576) (w : World) (hr : Row w ao n F T G) (hq : IRow w po m P) :
    Calls Tryz.prog 114 #[.agg #[.int .i64 p, .slice ao n cap], .slice po m pcap] w fun e w' => ERoom w w' e (lenF p n F T G m P) (Lf (lstF p n F T P)) (Hf (lstF p n F T P)) := by
  rcases Bool.eq_false_or_eq_true (ordB p n F T G m P) with h | h
  rotate_left
  · have hL : lenF p n F T G m P = 0 := by simp [lenF, h]
    rw [hL]
    have hA0 : Below w.heap.size w (((w.alloc (.cells #[.int .i64 p, .slice ao n cap] 38)).alloc (.cells #[] 122)).alloc (.cells #[.slice (some ⟨w.heap.size + 1, 0, none⟩) 0 0] 40)) := (((Below.refl _ _).alloc (Nat.le_refl _) _).alloc (by simp) _).alloc (by simp; omega) _
    go_enter Tryz.func114, Tryz.ntmps114
    go_wp2_with (go_at_call 112; refine (implOrderOk_any p ao n cap F T G po m pcap P hn hm _ (hr.below hA0 (Nat.le_refl _)) (hq.below hA0 (Nat.le_refl _))).mono ?_; rintro e w1 ⟨rfl, hb1⟩; have hbx := keep_cell hb1 (Nat.le_refl _) (b := w.heap.size + 1 + 1) (o := 0) (by simp [go_sem]; rfl))
    go_ret
    exact ⟨_, _, rfl, Nat.le_refl _, fun h => by omega, below_next hA0 (Nat.le_refl _) hb1⟩
  obtain ⟨hmp, hg, ⟨hm1, hm2⟩, he⟩ := ordB_parts h
  subst hmp
  have hL : lenF m n F T G m P = (allS (nbA F T n) P m m).length := by simp [lenF, h, lstF]
  have hS : lstF m n F T P = allS (nbA F T n) P m m := by simp [lstF]
  rw [hL, hS]
  obtain ⟨_, hn1, hF, hT, hFT⟩ := ok_arcs hg
  refine (implFill_walk m ao n cap F T G po pcap P hm1 hm2 hn1 hF hT hFT h w hr hq).mono ?_
  rintro e w' ⟨g, c, rfl, hc, hg2, hE, hb⟩
  exact ⟨_, _, rfl, hc, fun _ => ⟨g, rfl, hg2, hE⟩, hb⟩
theorem implFill_any (p : Int) (ao : Option Addr) (n cap : Nat) (F T G : Nat → Int) (po : Option Addr) (m pcap : Nat) (P : Nat → Int) (hn : n ≤ 1048576) (hm : m ≤ 1048576) (w : World) (hr : Row w ao n F T G) (hq : IRow w po m P) :
    Calls Tryz.prog 114 #[.agg #[.int .i64 p, .slice ao n cap], .slice po m pcap] w fun e w' => EAns w w' e (lenF p n F T G m P) (Lf (lstF p n F T P)) (Hf (lstF p n F T P)) :=
  (implFill_room p ao n cap F T G po m pcap P hn hm w hr hq).mono fun _ _ ⟨a, c, h1, _, h2, h3⟩ => ⟨a, c, h1, h2, h3⟩

end Go.Proofs.YteibbknpcgcjjaiGreat
