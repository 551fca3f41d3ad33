/-
  Helpers, merged: TakeAway, CountTo, OrdImpl, RankImpl, OrderOk, Cmp, Sort, RoundAny.
-/
import Derived.Test.YthcgibpiogmmdaiPack3
import Derived.Test.YthcgibpiogmmdaiPack1
import Derived.BigRegion
import Derived.Test.YthcgibpiogmmdaiPack2
import Derived.OrdersHeld
import Derived.Deep.RegionHeld
/-
  The program's takeAway: the mesh behind it is the one that the document asks for.
-/
set_option linter.unusedVariables false
set_option linter.unusedSimpArgs false
namespace Go.Proofs.Ythcgibpiogmmdai
open Go.RowKit Go.Shelf
attribute [local go_sem] Oper.semAt_some

/-- The iterator for a caller whose own invariant tells the row. -/
theorem iter_seq (n : Nat) (hn : 1 ≤ n) (bM bP bm p place : Nat) (hp : p ≤ 24) (hpl : place < 24) (I : List Nat → World → Prop) (bits : List Nat → Nat → Bool) (hI : ∀ pre W, I pre W → Reads bM bP bm p place W (bits pre)) (G : List Nat → Nat → Prop) (hG : ∀ k, k < p → bits (vis bits k) k = true → G (vis bits k) k) (w : World) :
    SeqAt Fence.wide n Try.prog 96 #[.pointer (some ⟨bM, 0, none⟩), .pointer (some ⟨bP, 0, none⟩)] (fun x : Nat => #[Value.int .i64 (x : Int)]) I G (fun xs => xs = vis bits p) w := fun l J W hW hJ hJI hY h0 => by
  refine (iter_core n hn l bM bP bm p place hp hpl J (fun _ _ => False) bits W hJ (fun pre W1 h => hI _ _ (hJI _ _ h)) ?_ h0).mono ?_
  · intro k W1 hk hb hj
    exact (hY _ _ _ hj (hG k hk hb)).mono (fun e W' h => .inl h)
  · rintro e W' ⟨hv, (h1 | ⟨k, _, _, h1⟩)⟩
    · exact ⟨hv, _, rfl, h1⟩
    · exact h1.elim

theorem SeqAt.inRound {α : Type} {F : Fence} {n : Nat} {P : Program} {gf : Nat} {lb : Array Value} {encs : α → Array Value} {I : List α → World → Prop} {G : List α → α → Prop} {S : List α → Prop} {w : World} (l : Nat) (h : SeqAt F n P gf lb encs I G S w) : SeqAt (F.inRound l) n P gf lb encs I G S w := h

/-- What stands while a place is taken away: four boxes, the mesh; nothing else that lay has turned. -/
structure TW (w : World) (bm : Nat) (p : Int) (a : Nat) (gone : Nat → Bool) (B : Nat → Nat → Bool) (W : World) : Prop where
  b0 : Boxed W w.heap.size 118 (.pointer (some ⟨bm, 0, none⟩))
  b1 : Boxed W (w.heap.size + 1) 2 (.int .i64 (a : Int))
  b2 : Boxed W (w.heap.size + 1 + 1) 118 (.pointer (some ⟨bm, 0, none⟩))
  b3 : Boxed W (w.heap.size + 1 + 1 + 1) 2 (.int .i64 (a : Int))
  mesh : MeshAt W bm p B gone
  gr : w.grownBy W (some bm)
theorem TW.grown {w W W' : World} {bm : Nat} {p : Int} {a : Nat} {gone : Nat → Bool} {B : Nat → Nat → Bool} {row : Option Nat} (h : TW w bm p a gone B W) (hb : bm < w.heap.size) (hg : W.grownBy W' row) (hr : ∀ r, row = some r → w.heap.size + 1 + 1 + 1 < r) : TW w bm p a gone B W' := by
  have hne : ∀ k, k ≤ w.heap.size + 1 + 1 + 1 → some k ≠ row := fun k hk e => by have := hr k e.symm; omega
  refine ⟨h.b0.kept hg (hne _ (by omega)), h.b1.kept hg (hne _ (by omega)), h.b2.kept hg (hne _ (by omega)), h.b3.kept hg (hne _ (by omega)), VHas.grown h.mesh hg (hne _ (by omega)), ?_⟩
  refine ⟨hg.os.trans h.gr.os, hg.tape.trans h.gr.tape, hg.output.trans h.gr.output, Nat.le_trans h.gr.size hg.size, fun k hk hnk => ?_⟩
  exact (hg.block k (Nat.lt_of_lt_of_le hk h.gr.size) (hne k (by omega))).trans (h.gr.block k hk hnk)
theorem TW.alloc {w W : World} {bm : Nat} {p : Int} {a : Nat} {gone : Nat → Bool} {B : Nat → Nat → Bool} (h : TW w bm p a gone B W) (hb : bm < w.heap.size) (o : Obj) : TW w bm p a gone B (W.alloc o) := h.grown hb (World.grownBy_alloc W o none) (fun r e => by cases e)
theorem TW.turn {w W W' : World} {bm : Nat} {p : Int} {a : Nat} {gone : Nat → Bool} {B B' : Nat → Nat → Bool} (h : TW w bm p a gone B W) (hb : bm < w.heap.size) (hm : MeshAt W' bm p B' gone) (hg : W.grownBy W' (some bm)) : TW w bm p a gone B' W' :=
  ⟨h.b0.kept hg (by simp; omega), h.b1.kept hg (by simp; omega), h.b2.kept hg (by simp; omega), h.b3.kept hg (by simp; omega), hm, h.gr.trans hg⟩
theorem TW.same {w W : World} {bm : Nat} {p : Int} {a : Nat} {gone : Nat → Bool} {B B' : Nat → Nat → Bool} (h : TW w bm p a gone B W) (e : ∀ x y, B x y = B' x y) : TW w bm p a gone B' W :=
  ⟨h.b0, h.b1, h.b2, h.b3, h.mesh.same (fun x y _ _ => e x y), h.gr⟩
theorem TW.own {β : Type} {w : World} {bm : Nat} {p : Int} {a : Nat} {gone : Nat → Bool} {B0 : Nat} (hb : bm < w.heap.size) (hB : w.heap.size + 1 + 1 + 1 < B0) (f : β → Nat → Nat → Bool) : OwnFrom B0 (fun s W => TW w bm p a gone (f s) W) :=
  fun s X Y row hs hg hr => hs.grown hb hg (fun r e => by have := (hr r e).1; omega)
theorem keeps_grown {B0 bm : Nat} {W W' : World} (hb : bm < B0) (hg : W.grownBy W' (some bm)) : KeepsFrom B0 W W' := KeepsFrom.of_grownBy hg (fun j e => by cases e; exact hb)

set_option maxRecDepth 100000 in
set_option maxHeartbeats 8000000 in
theorem takeAway_any (bm p a : Nat) (B : Nat → Nat → Bool) (gone : Nat → Bool) (hp : p ≤ 24) (ha : a < p) (hB : Fair B) (hW : Within p B) (w : World) (hM : MeshAt w bm (p : Int) B gone) :
    Calls Try.prog 85 #[.pointer (some ⟨bm, 0, none⟩), .int .i64 (a : Int)] w fun e w' => e = .returned (.tuple #[]) ∧ MeshAt w' bm (p : Int) (tk B a) (goneU gone a) ∧ w.grownBy w' (some bm) := by
  have hml := VHas.lt hM
  refine (callsIn_wide (n := 8)).1 ?_
  refine callsIn_of_wp_marks Try.func85 rfl trivial ?_ rfl
  simp only [Try.ntmps85, List.size_toArray, List.length_cons, List.length_nil, Nat.reduceAdd, Nat.reduceSub, Array.replicate_succ, Array.replicate_zero, List.push_toArray, List.append_toArray, List.nil_append, List.cons_append]
  gi_wp2_with (refine ⟨trivial, ?_⟩; gi_at_call 87; refine (callsIn_wide.2 (neighbours_any bm (a : Int) _)).mono ?_; rintro e w' ⟨rfl, rfl⟩)
  have h0 := (((Boxed.new w 118 (.pointer (some ⟨bm, 0, none⟩))).alloc (.cells #[.int .i64 (a : Int)] 2)).alloc (.cells #[.pointer (some ⟨bm, 0, none⟩)] 118)).alloc (.cells #[.int .i64 (a : Int)] 2)
  have h1 := ((Boxed.new (w.alloc (.cells #[.pointer (some ⟨bm, 0, none⟩)] 118)) 2 (.int .i64 (a : Int))).alloc (.cells #[.pointer (some ⟨bm, 0, none⟩)] 118)).alloc (.cells #[.int .i64 (a : Int)] 2)
  have h2 := (Boxed.new ((w.alloc (.cells #[.pointer (some ⟨bm, 0, none⟩)] 118)).alloc (.cells #[.int .i64 (a : Int)] 2)) 118 (.pointer (some ⟨bm, 0, none⟩))).alloc (.cells #[.int .i64 (a : Int)] 2)
  have h3 := Boxed.new (((w.alloc (.cells #[.pointer (some ⟨bm, 0, none⟩)] 118)).alloc (.cells #[.int .i64 (a : Int)] 2)).alloc (.cells #[.pointer (some ⟨bm, 0, none⟩)] 118)) 2 (.int .i64 (a : Int))
  simp only [World.size_alloc] at h1 h2 h3
  have hB0 : Below w.heap.size w ((((w.alloc (.cells #[.pointer (some ⟨bm, 0, none⟩)] 118)).alloc (.cells #[.int .i64 (a : Int)] 2)).alloc (.cells #[.pointer (some ⟨bm, 0, none⟩)] 118)).alloc (.cells #[.int .i64 (a : Int)] 2)) := ((((Below.refl _ w).alloc (Nat.le_refl _) _).alloc (by simp) _).alloc (by simp; omega) _).alloc (by simp; omega) _
  have hM0 := VHas.below hM hB0 hml
  have hsz : ((((w.alloc (.cells #[.pointer (some ⟨bm, 0, none⟩)] 118)).alloc (.cells #[.int .i64 (a : Int)] 2)).alloc (.cells #[.pointer (some ⟨bm, 0, none⟩)] 118)).alloc (.cells #[.int .i64 (a : Int)] 2)).heap.size = w.heap.size + 4 := by simp
  generalize ((((w.alloc (.cells #[.pointer (some ⟨bm, 0, none⟩)] 118)).alloc (.cells #[.int .i64 (a : Int)] 2)).alloc (.cells #[.pointer (some ⟨bm, 0, none⟩)] 118)).alloc (.cells #[.int .i64 (a : Int)] 2)) = W0 at h0 h1 h2 h3 hB0 hM0 hsz ⊢
  have hT0 : TW w bm (p : Int) a gone (stI B a []) W0 := (TW.same ⟨h0, h1, h2, h3, hM0, ⟨hB0.os, hB0.tape, hB0.output, hB0.size, fun k hk _ => hB0.block k hk⟩⟩ (fun x y => (stI_start hB a x y).symm))
  clear h0 h1 h2 h3 hM0 hB0
  gi_wp2
  have hrow : ∀ (pre : List Nat) (W : World), TW w bm (p : Int) a gone (stI B a pre) W → Reads (w.heap.size + 1 + 1) (w.heap.size + 1 + 1 + 1) bm p a W ((fun (pre : List Nat) j => B a j && !pre.contains j) pre) := fun pre W h => by
    have := Reads.of_mesh (by omega) h.b2.cell h.b3.cell h.mesh
    rw [stI_row] at this
    exact this
  have hgood : ∀ k, k < p → (fun (pre : List Nat) j => B a j && !pre.contains j) (vis (fun (pre : List Nat) j => B a j && !pre.contains j) k) k = true → (fun (pre : List Nat) (x : Nat) => x < p ∧ B a x = true ∧ x ≠ a) (vis (fun (pre : List Nat) j => B a j && !pre.contains j) k) k := fun k hk hb => by
    simp only [Bool.and_eq_true] at hb
    exact ⟨hk, hb.1, fun e => by rw [e, hB.2] at hb; cases hb.1⟩
  refine range_alone rfl (by omega) (gf := 96) (lb := #[.pointer (some ⟨w.heap.size + 1 + 1, 0, none⟩), .pointer (some ⟨w.heap.size + 1 + 1 + 1, 0, none⟩)]) rfl trivial (enters_of Try.func96 (by kernel_rfl) rfl)
    (encs := fun x : Nat => #[Value.int .i64 (x : Int)]) (fun _ => rfl) (fun pre W => TW w bm (p : Int) a gone (stI B a pre) W) (TW.own hml (by omega) _) hT0
    (iter_seq 7 (by omega) (w.heap.size + 1 + 1) (w.heap.size + 1 + 1 + 1) bm p a hp (by omega) _ (fun pre j => B a j && !pre.contains j) hrow (fun pre x => x < p ∧ B a x = true ∧ x ≠ a) hgood W0)
    (fun x a' W => ∃ Bx, W0.heap.size ≤ Bx ∧ Boxed W Bx 2 (.int .i64 (x : Int)) ∧ a' = { tmps := #[.pointer (some ⟨bm, 0, none⟩), .int .i64 (a : Int), .pointer (some ⟨w.heap.size, 0, none⟩), .pointer (some ⟨w.heap.size + 1, 0, none⟩), .pointer (some ⟨Bx, 0, none⟩), undef, .pointer (some ⟨bm, 0, none⟩), .int .i64 (a : Int), .func (.func 96) #[] #[.pointer (some ⟨w.heap.size + 1 + 1, 0, none⟩), .pointer (some ⟨w.heap.size + 1 + 1 + 1, 0, none⟩)], .int .i64 (x : Int), undef, undef, undef, undef, undef, undef, undef, undef, undef, undef, undef, undef, undef, undef, undef, undef, undef], defers := [] })
    (fun x a' _ X Y row hs hg hr => by obtain ⟨Bx, h1, h2, h3⟩ := hs; exact ⟨Bx, h1, boxed_own Bx 2 (fun (_ : Unit) => Value.int .i64 (x : Int)) () X Y row h2 hg (fun r e => (hr r e).2), h3⟩)
    ?assign ?body ?done
  case assign =>
    rintro l pre x W K hi _ hK
    have hsW := hi.b3.lt
    gi_wp2
    exact hK _ _ ((KeepsOthers.alloc _ _).from _) (hi.alloc hml _) ⟨W.heap.size, by omega, Boxed.new W 2 _, rfl⟩
  case body =>
    rintro l pre x a' W hl ⟨r, hr⟩ hi ⟨hxp, hbx, hxa⟩ ⟨Bx, hBx, bX, rfl⟩
    have c0 := hi.b0.cell
    have c1 := hi.b1.cell
    have cX := bX.cell
    have hax : a ≠ x := fun e => hxa e.symm
    have hlt := (Array.getElem?_eq_some_iff.1 hr).1
    gi_wp2_with fail
    refine ⟨trivial, ?_⟩
    refine (CallsIn.inRound l (callsIn_wide.2 (part_any bm a x (p : Int) _ gone (by omega) (by omega) hax _ hi.mesh))).mono ?_
    rintro e w2 ⟨rfl, hM2, hg2⟩
    have hT2 := (hi.turn hml hM2 hg2).same (stI_part B pre hxa)
    have bX2 := bX.kept hg2 (by simp; omega)
    have hk2 : KeepsFrom W0.heap.size W w2 := keeps_grown (by omega) hg2
    have hr2 := hk2.same l _ hl hr rfl
    have d0 := hT2.b0.cell
    have d1 := hT2.b1.cell
    have hs2 := hT2.b3.lt
    clear hM2 hg2 c0 c1 cX hi bX
    gi_wp2_with fail
    refine ⟨trivial, ?_⟩
    refine (CallsIn.inRound l (callsIn_wide.2 (neighbours_any bm (a : Int) _))).mono ?_
    rintro e w' ⟨rfl, rfl⟩
    have e2 := (Boxed.new w2 118 (.pointer (some ⟨bm, 0, none⟩))).alloc (.cells #[.int .i64 (a : Int)] 2)
    have e3 := Boxed.new (w2.alloc (.cells #[.pointer (some ⟨bm, 0, none⟩)] 118)) 2 (.int .i64 (a : Int))
    simp only [World.size_alloc] at e3
    have hT3 := (hT2.alloc hml (.cells #[.pointer (some ⟨bm, 0, none⟩)] 118)).alloc hml (.cells #[.int .i64 (a : Int)] 2)
    have bX3 := (bX2.alloc (.cells #[.pointer (some ⟨bm, 0, none⟩)] 118)).alloc (.cells #[.int .i64 (a : Int)] 2)
    have hk3 := hk2.trans ((((KeepsOthers.alloc w2 (.cells #[.pointer (some ⟨bm, 0, none⟩)] 118)).trans (KeepsOthers.alloc _ (.cells #[.int .i64 (a : Int)] 2))).from W0.heap.size))
    have hr3 := hk3.same l _ hl hr rfl
    have hs3 : ((w2.alloc (.cells #[.pointer (some ⟨bm, 0, none⟩)] 118)).alloc (.cells #[.int .i64 (a : Int)] 2)).heap.size = w2.heap.size + 2 := by simp
    generalize (w2.alloc (.cells #[.pointer (some ⟨bm, 0, none⟩)] 118)).alloc (.cells #[.int .i64 (a : Int)] 2) = W3 at e2 e3 hT3 bX3 hk3 hr3 hs3 ⊢
    clear hT2 bX2 hk2 hr2 d0 d1
    have hrow2 : ∀ (pre' : List Nat) (W' : World), ((TW w bm (p : Int) a gone (stJ B a pre x pre') W' ∧ Boxed W' Bx 2 (.int .i64 (x : Int))) ∧ (Boxed W' w2.heap.size 118 (.pointer (some ⟨bm, 0, none⟩)) ∧ Boxed W' (w2.heap.size + 1) 2 (.int .i64 (a : Int)))) ∧ KeepsFrom W0.heap.size W W' → Reads w2.heap.size (w2.heap.size + 1) bm p a W' ((fun (_ : List Nat) j => B a j && !(pre ++ [x]).contains j) pre') := fun pre' W' h => by
      have := Reads.of_mesh (by omega) h.1.2.1.cell h.1.2.2.cell h.1.1.1.mesh
      rw [stJ_row] at this
      exact this
    have hgood2 : ∀ k, k < p → (fun (_ : List Nat) j => B a j && !(pre ++ [x]).contains j) (vis (fun (_ : List Nat) j => B a j && !(pre ++ [x]).contains j) k) k = true → (fun (_ : List Nat) (y : Nat) => y < p ∧ y ≠ a ∧ x ≠ y) (vis (fun (_ : List Nat) j => B a j && !(pre ++ [x]).contains j) k) k := fun k hk hb => by
      simp only [Bool.and_eq_true, contains_snoc] at hb
      show k < p ∧ k ≠ a ∧ x ≠ k
      refine ⟨hk, fun e => (by rw [e, hB.2] at hb; cases hb.1), fun e => ?_⟩
      have := hb.2
      rw [e] at this
      simp at this
    gi_wp2
    refine range_within (l₀ := l) (r₀ := r) rfl hr3 (by omega) (gf := 96) (lb := #[.pointer (some ⟨w2.heap.size, 0, none⟩), .pointer (some ⟨w2.heap.size + 1, 0, none⟩)]) rfl trivial (enters_of Try.func96 (by kernel_rfl) rfl)
      (encs := fun x : Nat => #[Value.int .i64 (x : Int)]) (fun _ => rfl) (fun pre' W' => ((TW w bm (p : Int) a gone (stJ B a pre x pre') W' ∧ Boxed W' Bx 2 (.int .i64 (x : Int))) ∧ (Boxed W' w2.heap.size 118 (.pointer (some ⟨bm, 0, none⟩)) ∧ Boxed W' (w2.heap.size + 1) 2 (.int .i64 (a : Int)))) ∧ KeepsFrom W0.heap.size W W')
      (OwnFrom.and (OwnFrom.and (OwnFrom.and (TW.own hml (by omega) _) (Own.from (boxed_own _ _ _) _)) (OwnFrom.and (Own.from (boxed_own _ _ _) _) (Own.from (boxed_own _ _ _) _))) (ownFrom_keepsFrom hk3.size)) ⟨⟨⟨hT3, bX3⟩, e2, e3⟩, hk3⟩
      ((iter_seq (8 - 1 - 1 - 1) (by omega) w2.heap.size (w2.heap.size + 1) bm p a hp (by omega) _ (fun _ j => B a j && !(pre ++ [x]).contains j) hrow2 (fun _ y => y < p ∧ y ≠ a ∧ x ≠ y) hgood2 W3).inRound l)
      (fun y a'' _ => a'' = { tmps := #[.pointer (some ⟨bm, 0, none⟩), .int .i64 (a : Int), .pointer (some ⟨w.heap.size, 0, none⟩), .pointer (some ⟨w.heap.size + 1, 0, none⟩), .pointer (some ⟨Bx, 0, none⟩), .int .i64 (y : Int), .pointer (some ⟨bm, 0, none⟩), .int .i64 (a : Int), .func (.func 96) #[] #[.pointer (some ⟨w.heap.size + 1 + 1, 0, none⟩), .pointer (some ⟨w.heap.size + 1 + 1 + 1, 0, none⟩)], .int .i64 (x : Int), .pointer (some ⟨bm, 0, none⟩), .int .i64 (a : Int), .int .i64 (x : Int), .tuple #[], .pointer (some ⟨bm, 0, none⟩), .int .i64 (a : Int), .func (.func 96) #[] #[.pointer (some ⟨w2.heap.size, 0, none⟩), .pointer (some ⟨w2.heap.size + 1, 0, none⟩)], .int .i64 (y : Int), undef, undef, undef, undef, undef, undef, undef, undef, undef], defers := [] })
      (fun _ _ _ _ _ _ hs _ _ => hs)
      ?assign2 ?body2 ?done2
    case assign2 =>
      rintro l2 pre' y W' K hi' _ hK
      gi_wp2
      exact hK _ _ (KeepsFrom.refl _ _) hi' rfl
    case body2 =>
      rintro l2 pre' y a'' W' _ _ ⟨⟨⟨hT', bX'⟩, f2, f3⟩, hk'⟩ ⟨hyp, hya, hxy⟩ rfl
      have d0 := hT'.b0.cell
      have d1 := bX'.cell
      have hsl := bX'.lt
      gi_wp2_with (refine ⟨trivial, ?_⟩; gi_at_call 93; refine (CallsIn.inRound l2 (callsIn_wide.2 (join_any bm x y (p : Int) _ gone (by omega) (by omega) hxy _ hT'.mesh))).mono ?_; rintro e w5 ⟨rfl, hM5, hg5⟩)
      exact ⟨rfl, keeps_grown (by omega) hg5, ⟨⟨(hT'.turn hml hM5 hg5).same (stJ_join B pre pre' hxa hya), bX'.kept hg5 (by simp; omega)⟩, f2.kept hg5 (by simp; omega), f3.kept hg5 (by simp; omega)⟩, hk'.trans (keeps_grown (by omega) hg5)⟩
    case done2 =>
      rintro ys W' rfl ⟨⟨⟨hT', bX'⟩, f2, f3⟩, hk'⟩
      gi_wp2
      exact ⟨rfl, hk', hT'.same (stJ_end hW hbx)⟩
  case done =>
    rintro D xs W hD rfl hi hK
    rw [vis_struck] at hi
    replace hi := hi.same (stI_end hW)
    have c0 := hi.b0.cell
    have c1 := hi.b1.cell
    have c2 := hi.mesh.gone (show a < 24 by omega)
    have z2 := VHas.frozen hi.mesh (577 + a)
    have ha' : (a : Int) < 24 := by omega
    gi_wp2
    refine wpIn_wide.2 ?_
    go_big_region
    have hM2 := hi.mesh.go (show a < 24 by omega)
    have hg2 : w.grownBy ((W.setCell ⟨bm, 577 + a, none⟩ (.bool true)).drew) (some bm) := (hi.gr.trans (gr_setCell W bm (577 + a) (.bool true))).trans ⟨rfl, rfl, rfl, Nat.le_refl _, fun _ _ _ => rfl⟩
    have hK2 : ((W.setCell ⟨bm, 577 + a, none⟩ (.bool true)).drew).heap[D]? = some (.deferred (some [])) := (KeepsOthers.setCell W _ _).same D _ hK rfl
    have hM3 : MeshAt ((W.setCell ⟨bm, 577 + a, none⟩ (.bool true)).drew) bm (p : Int) (tk B a) (goneU gone a) := VHas.of_block hM2 rfl
    refine ⟨by simp, .inl ⟨_, _, rfl, run_takeDeferred hK2, ?_⟩⟩
    refine ⟨_, results_none rfl _ _ _, rfl, VHas.of_block hM3 (World.putObj_heap_other (by omega)), ?_⟩
    refine ⟨hg2.os, hg2.tape, hg2.output, by simpa using hg2.size, fun k hk hne => ?_⟩
    rw [World.putObj_heap_other (by omega)]
    exact hg2.block k hk hne

end Go.Proofs.Ythcgibpiogmmdai

/-
  The program's count of a place's neighbours, which leaves off at a limit.
-/
set_option linter.unusedVariables false
set_option linter.unusedSimpArgs false
namespace Go.Proofs.Ythcgibpiogmmdai
open Go.RowKit Go.Shelf
attribute [local go_sem] Oper.semAt_some

set_option maxRecDepth 100000 in
set_option maxHeartbeats 2000000 in
theorem countTo_any (bm p place limit : Nat) (B : Nat → Nat → Bool) (gone : Nat → Bool) (hp : p ≤ 24) (hpl : place < 24) (hl : limit ≤ 24) (w : World) (hM : MeshAt w bm (p : Int) B gone) :
    Calls Try.prog 94 #[.pointer (some ⟨bm, 0, none⟩), .int .i64 (place : Int), .int .i64 (limit : Int)] w fun e w' => e = .returned (.int .i64 (min (cntB (B place) p) limit : Nat)) ∧ Below w.heap.size w w' := by
  refine (callsIn_wide (n := 6)).1 ?_
  refine callsIn_of_wp_marks Try.func94 rfl trivial ?_ rfl
  simp only [Try.ntmps94, List.size_toArray, List.length_cons, List.length_nil, Nat.reduceAdd, Nat.reduceSub, Array.replicate_succ, Array.replicate_zero, List.push_toArray, List.append_toArray, List.nil_append, List.cons_append]
  gi_wp2
  refine wpIn_wide.2 (wp_scope_straight ((wpIn_wide (n := 6)).1 ?_))
  gi_wp2
  refine wpIn_label ?_
  gi_wp2_with (refine ⟨trivial, ?_⟩; gi_at_call 87; refine (callsIn_wide.2 (neighbours_any bm (place : Int) _)).mono ?_; rintro e w' ⟨rfl, rfl⟩)
  have hml := VHas.lt hM
  have bL := (((Boxed.new w 2 (.int .i64 (limit : Int))).alloc (.cells #[.int .i64 0] 2)).alloc (.cells #[.pointer (some ⟨bm, 0, none⟩)] 118)).alloc (.cells #[.int .i64 (place : Int)] 2)
  have bC := ((Boxed.new (w.alloc (.cells #[.int .i64 (limit : Int)] 2)) 2 (.int .i64 0)).alloc (.cells #[.pointer (some ⟨bm, 0, none⟩)] 118)).alloc (.cells #[.int .i64 (place : Int)] 2)
  have bA := (Boxed.new ((w.alloc (.cells #[.int .i64 (limit : Int)] 2)).alloc (.cells #[.int .i64 0] 2)) 118 (.pointer (some ⟨bm, 0, none⟩))).alloc (.cells #[.int .i64 (place : Int)] 2)
  have bP := Boxed.new (((w.alloc (.cells #[.int .i64 (limit : Int)] 2)).alloc (.cells #[.int .i64 0] 2)).alloc (.cells #[.pointer (some ⟨bm, 0, none⟩)] 118)) 2 (.int .i64 (place : Int))
  simp only [World.size_alloc] at bC bA bP
  have hB0 : Below w.heap.size w ((((w.alloc (.cells #[.int .i64 (limit : Int)] 2)).alloc (.cells #[.int .i64 0] 2)).alloc (.cells #[.pointer (some ⟨bm, 0, none⟩)] 118)).alloc (.cells #[.int .i64 (place : Int)] 2)) := ((((Below.refl _ w).alloc (Nat.le_refl _) _).alloc (by simp) _).alloc (by simp; omega) _).alloc (by simp; omega) _
  have hM0 := VHas.below hM hB0 hml
  have hsz : ((((w.alloc (.cells #[.int .i64 (limit : Int)] 2)).alloc (.cells #[.int .i64 0] 2)).alloc (.cells #[.pointer (some ⟨bm, 0, none⟩)] 118)).alloc (.cells #[.int .i64 (place : Int)] 2)).heap.size = w.heap.size + 4 := by simp
  generalize ((((w.alloc (.cells #[.int .i64 (limit : Int)] 2)).alloc (.cells #[.int .i64 0] 2)).alloc (.cells #[.pointer (some ⟨bm, 0, none⟩)] 118)).alloc (.cells #[.int .i64 (place : Int)] 2)) = W0 at bL bC bA bP hB0 hM0 hsz ⊢
  have hR0 : Reads (w.heap.size + 1 + 1) (w.heap.size + 1 + 1 + 1) bm p place W0 (B place) := Reads.of_mesh hpl bA.cell bP.cell hM0
  gi_wp2
  refine wpIn_rangeFunc_ownG rfl (by omega) (gf := 96) (lb := #[.pointer (some ⟨w.heap.size + 1 + 1, 0, none⟩), .pointer (some ⟨w.heap.size + 1 + 1 + 1, 0, none⟩)]) rfl trivial (enters_of Try.func96 (by kernel_rfl) rfl)
    (iter_stops 5 (by omega) (w.heap.size + 1 + 1) (w.heap.size + 1 + 1 + 1) bm p place (B place) hp hpl W0 hR0) (fun h k r => k (h r)) (fun W l o o' hl ho hc hw hR => hR.grown (grownBy_putObj' W l o') (fun r e => by cases e; exact ⟨o, ho, hc⟩)) (Below.refl _ _) (fun _ => rfl)
    (fun pre W => ((Boxed W (w.heap.size + 1) 2 (.int .i64 (pre.length : Int)) ∧ Boxed W w.heap.size 2 (.int .i64 (limit : Int))) ∧ pre.length ≤ limit) ∧ Below w.heap.size w W)
    (fun c pre W => ((c = .exit 0 ∧ pre.length = limit + 1) ∧ Boxed W (w.heap.size + 1) 2 (.int .i64 (limit : Int))) ∧ Below w.heap.size w W)
    (OwnFrom.and (OwnFrom.and (OwnFrom.and (Own.from (boxed_own _ _ (fun pre : List Nat => Value.int .i64 (pre.length : Int))) _) (Own.from (boxed_own _ _ _) _)) (ownFrom_pure _ (fun pre : List Nat => pre.length ≤ limit))) (ownFrom_below (Nat.le_refl _) (by omega)))
    (fun c => OwnFrom.and (OwnFrom.and (ownFrom_pure _ (fun pre : List Nat => c = .exit 0 ∧ pre.length = limit + 1)) (Own.from (boxed_own _ _ _) _)) (ownFrom_below (Nat.le_refl _) (by omega)))
    ⟨⟨⟨bC, bL⟩, by simp⟩, hB0⟩
    (fun x => { tmps := #[.pointer (some ⟨bm, 0, none⟩), .int .i64 (place : Int), .int .i64 (limit : Int), undef, undef, .pointer (some ⟨w.heap.size, 0, none⟩), .int .i64 0, .pointer (some ⟨w.heap.size + 1, 0, none⟩), .pointer (some ⟨bm, 0, none⟩), .int .i64 (place : Int), .func (.func 96) #[] #[.pointer (some ⟨w.heap.size + 1 + 1, 0, none⟩), .pointer (some ⟨w.heap.size + 1 + 1 + 1, 0, none⟩)], .int .i64 (x : Int), undef, undef, undef, undef, undef, undef], defers := [] }) ?assign ?body ?done ?stop
  case assign =>
    intro l x W K hK
    refine wpIn_skip ?_
    simpa [Exit.then] using hK
  case body =>
    rintro l pre x W ⟨⟨⟨bC1, bL1⟩, hle⟩, hB1⟩ _
    have cC := bC1.cell
    have fC := bC1.frozen
    have cL := bL1.cell
    have hK1 : KeepsFrom W0.heap.size W (W.setCell ⟨w.heap.size + 1, 0, none⟩ (.int .i64 ((pre.length : Int) + 1))) := (KeepsOthers.setCell _ _ _).from _
    by_cases hq : pre.length = limit
    · have hq' : ((pre.length : Int) == (limit : Int)) = true := by simp [hq]
      have hqi : (pre.length : Int) = (limit : Int) := by omega
      rw [hqi] at cC bC1
      gi_wp2
      exact ⟨KeepsFrom.refl _ _, ⟨⟨rfl, by simp [hq]⟩, bC1⟩, hB1⟩
    · have hq' : ¬ (pre.length : Int) = (limit : Int) := by omega
      gi_wp2
      refine ⟨hK1, fun r => ?_, ⟨⟨?_, bL1.other (by omega) _⟩, by simp; omega⟩, hB1.setCell (p := ⟨w.heap.size + 1, 0, none⟩) (by simp) _⟩
      · have hg := gr_setCell W (w.heap.size + 1) 0 (.int .i64 ((pre.length : Int) + 1))
        exact ⟨hg.cell r.rdM (by simp), hg.cell r.rdP (by simp; omega), hg.cell r.rdN (by simp; omega), fun j hj => hg.cell (r.rdR j hj) (by simp; omega)⟩
      · have := bC1.set (.int .i64 ((pre.length : Int) + 1))
        simpa using this
  case done =>
    rintro D ys W hD rfl ⟨⟨⟨bC1, bL1⟩, hle⟩, hB1⟩ hK
    have cC := bC1.cell
    gi_wp2
    refine ⟨by simp, .inl ⟨_, _, rfl, run_takeDeferred hK, ?_⟩⟩
    refine ⟨_, results_tmp rfl _ _ _, ?_, hB1.trans (belowK_b (w := w) (Nat.le_refl _) W D _ _ (by omega) hK rfl rfl)⟩
    rw [visF_len] at hle ⊢
    rw [Nat.min_eq_left hle]
    rfl
  case stop =>
    rintro D c pre W hD hSp ⟨⟨⟨rfl, hlen⟩, bC1⟩, hB1⟩ hK
    have cC := bC1.cell
    have hmin : min (cntB (B place) p) limit = limit := by
      obtain ⟨k, hk, hb, rfl⟩ := hSp
      rw [List.length_append, visF_len] at hlen
      simp at hlen
      have := cntB_mono (B place) (show k + 1 ≤ p by omega)
      rw [cntB_succ hb] at this
      omega
    gi_wp2
    refine ⟨by simp, .inl ⟨_, _, rfl, run_takeDeferred hK, ?_⟩⟩
    exact ⟨_, results_tmp rfl _ _ _, by rw [hmin]; rfl, hB1.trans (belowK_b (w := w) (Nat.le_refl _) W D _ _ (by omega) hK rfl rfl)⟩

end Go.Proofs.Ythcgibpiogmmdai

/-
  Order, the document's and the program's, at every map of at most 2^20 arcs: the same list, in new memory.
-/
set_option linter.unusedVariables false
set_option linter.unusedSimpArgs false
namespace Go.Proofs.Ythcgibpiogmmdai
open Go.RowKit
attribute [local go_sem ↓] Go.wp_at_zero Go.wp_at_succ

set_option maxHeartbeats 2000000 in
theorem next_any (bm p : Nat) (B : Nat → Nat → Bool) (gone : Nat → Bool) (hp : p ≤ 24) (w : World) (hM : MeshAt w bm (p : Int) B gone) :
    Calls Try.prog 84 #[.pointer (some ⟨bm, 0, none⟩)] w fun e w' => e = .returned (.int .i64 ((pick p B gone p).1 : Int)) ∧ Below w.heap.size w w' := by
  have hml := VHas.lt hM
  have c0 := hM.places
  go_enter Try.func84, Try.ntmps84
  go_wp2
  go_quiet (fail)
  have hMq : MeshAt (w.drewN nq) bm (p : Int) B gone := VHas.of_block hM rfl
  have hbq : Below w.heap.size w (w.drewN nq) := below_drewN (Below.refl _ _) nq
  generalize w.drewN nq = wq at hMq hbq ⊢
  have d0 := hMq.places
  clear c0
  go_wp2
  clear d0
  go_loopw [3, 4, 15] (fun x y i wr => ∃ j : Nat, j ≤ p ∧ x = .int .i64 ((pick p B gone j).1 : Int) ∧ y = .int .i64 ((pick p B gone j).2 : Int) ∧ i = .int .i64 j ∧ MeshAt wr bm (p : Int) B gone ∧ Below w.heap.size w wr) (fun _ _ i _ => p - (intOf i).toNat)
  case atStart => exact ⟨0, Nat.zero_le _, rfl, rfl, rfl, hMq, hbq⟩
  case round =>
    clear hMq hbq
    obtain ⟨j, hj, rfl, rfl, rfl, hMj, hbel⟩ := hrel
    have hple := pick_le (p := p) (B := B) (gone := gone) j
    by_cases hlt : j < p
    rotate_left
    · have hjp : j = p := by omega
      subst hjp
      go_wp2
      go_ret
      exact ⟨rfl, hbel⟩
    have hlt' : (j : Int) < (p : Int) := by omega
    have h24 : (j : Int) < 24 := by omega
    have c1 := hMj.gone (show j < 24 by omega)
    cases hg : gone j
    · rw [hg] at c1
      have hct := countTo_any bm p j (pick p B gone j).2 B gone hp (by omega) (by omega) wr hMj
      by_cases hc : cntB (B j) p < (pick p B gone j).2
      · have hpk : Hid (pick p B gone (j + 1) = (j, cntB (B j) p)) := by
          show (if gone j then _ else if cntB (B j) p < (pick p B gone j).2 then (j, cntB (B j) p) else _) = _
          rw [if_neg (by rw [hg]; simp), if_pos hc]
        rw [Nat.min_eq_left (Nat.le_of_lt hc)] at hct
        have hc' : (cntB (B j) p : Int) < ((pick p B gone j).2 : Int) := by omega
        go_wp2_with (go_at_call 94; refine hct.mono ?_; rintro e w2 ⟨rfl, hb2⟩)
        go_roundw
        case rel => exact ⟨j + 1, by omega, by rw [hpk.out], by rw [hpk.out], by go_num, VHas.next hMj hb2, below_next hbel (Nat.le_refl _) hb2⟩
        case measure => simp [intOf]; omega
      · have hpk : Hid (pick p B gone (j + 1) = pick p B gone j) := by
          show (if gone j then _ else if cntB (B j) p < (pick p B gone j).2 then (j, cntB (B j) p) else pick p B gone j) = _
          rw [if_neg (by rw [hg]; simp), if_neg hc]
        rw [Nat.min_eq_right (Nat.le_of_not_lt hc)] at hct
        go_wp2_with (go_at_call 94; refine hct.mono ?_; rintro e w2 ⟨rfl, hb2⟩)
        go_roundw
        case rel => exact ⟨j + 1, by omega, by rw [hpk.out], by rw [hpk.out], by go_num, VHas.next hMj hb2, below_next hbel (Nat.le_refl _) hb2⟩
        case measure => simp [intOf]; omega
    · rw [hg] at c1
      have hpk : Hid (pick p B gone (j + 1) = pick p B gone j) := by
        show (if gone j then pick p B gone j else _) = _
        rw [if_pos hg]
      go_wp2
      go_roundw
      case rel => exact ⟨j + 1, by omega, by rw [hpk.out], by rw [hpk.out], by go_num, hMj, hbel⟩
      case measure => simp [intOf]; omega
set_option maxHeartbeats 2000000 in
theorem implOrder_any (p : Int) (ao : Option Addr) (n cap : Nat) (F T G : Nat → Int) (hn : n ≤ 1048576) (w : World) (hr : Row w ao n F T G) :
    Calls Try.prog 61 #[.agg #[.int .i64 p, .slice ao n cap]] w fun e w' => Ans w w' e (lenO p n F T G) (listO p n F T) := by
  rcases Bool.eq_false_or_eq_true (graphB p n F T G) with h | h
  rotate_left
  · have hL : lenO p n F T G = 0 := by simp [lenO, h]
    rw [hL]
    go_enter Try.func61, Try.ntmps61
    go_wp2_with (go_at_call 33; refine (implGraphOk_any p ao n cap F T G hn _ (hr.alloc _)).mono ?_; rintro e w1 ⟨rfl, hb1⟩)
    go_ret
    exact ⟨_, _, rfl, fun h => by omega, unbox (hb1.alloc (by have := hb1.size; omega) _) (by simp)⟩
  have hpp : 1 ≤ p ∧ p ≤ 24 := by simpa [inB] using graphB_p h
  obtain ⟨pn, rfl⟩ : ∃ pn : Nat, p = (pn : Int) := ⟨p.toNat, by omega⟩
  have hL : lenO pn n F T G = pn := by simp [lenO, h]
  rw [hL]
  obtain ⟨⟨hp1, hp2⟩, hn1, hF, hT, hFT⟩ := ok_arcs h
  have hfair : Fair (nbA F T n) := fair_nbA n (fun k hk => by have := hF k hk; have := hT k hk; have := hFT k hk; omega)
  have hwi : Within pn (nbA F T n) := within_nbA n (fun k hk => by have := hF k hk; have := hT k hk; omega)
  have hmo := fun W hr' => meshOf_any pn ao n cap F T G hp2 hn1 hF hT hFT W hr'
  have hli : listO pn n F T = (run3 pn (nbA F T n) pn).2.2 := by simp [listO]
  rw [hli]
  generalize nbA F T n = B at hfair hwi hmo ⊢
  have HF : Hid (Fair B ∧ Within pn B) := ⟨hfair, hwi⟩
  have HMO : Hid (∀ W, Row W ao n F T G → Calls Try.prog 83 #[.agg #[.int .i64 (pn : Int), .slice ao n cap]] W fun e w' => ∃ bm, e = .returned (.pointer (some ⟨bm, 0, none⟩)) ∧ W.heap.size ≤ bm ∧ MeshAt w' bm (pn : Int) B (fun _ => false) ∧ Below W.heap.size W w') := hmo
  clear hL hF hT hFT hpp hfair hwi hmo hli
  go_enter Try.func61, Try.ntmps61
  go_wp2_with fail
  refine (implGraphOk_any pn ao n cap F T G hn _ (hr.alloc _)).mono ?_
  rintro e w1 ⟨rfl, hb1⟩
  have hA1 := boxed hb1
  obtain ⟨x0, x1, xs⟩ := box2 hA1
  rw [h]
  go_wp2_with fail
  refine (HMO.out _ ((hr.alloc _).below hA1 (by simp))).mono ?_
  rintro e w2 ⟨bm, rfl, hbm, hM2, hb2⟩
  have hA2 := below_next hA1 (by simp) hb2
  clear x0 x1 hA1 hb1
  obtain ⟨x0, x1, xs2⟩ := box2 hA2
  have hml := VHas.lt hM2
  have hmk := make_ints pn (by omega)
  have hA3 := hA2.alloc (o := .cells (madeCells #[.int .i64 0] pn) 2) (by omega)
  have hM3 := hM2.alloc (.cells (madeCells #[.int .i64 0] pn) 2)
  have hI3 := made_ints w2 pn
  clear hb2 hM2
  go_wp2_with fail
  clear hmk x0 x1
  go_loopw [17] (fun i wr => ∃ k : Nat, k ≤ pn ∧ i = .int .i64 k ∧ MeshAt wr bm (pn : Int) (run3 pn B k).1 (run3 pn B k).2.1 ∧ IHas wr w2.heap.size pn (run3 pn B k).2.2 ∧ Below (w.heap.size + 1) (w.alloc (.cells #[.int .i64 (pn : Int), .slice ao n cap] 37)) wr) (fun i _ => pn - (intOf i).toNat)
  case atStart => exact ⟨0, Nat.zero_le _, rfl, hM3, hI3, hA3⟩
  case round =>
    clear hM3 hI3 hA3 hA2
    obtain ⟨k, hk, rfl, hM, hI, hA⟩ := hrel
    by_cases hlt : k < pn
    rotate_left
    · have hkp : k = pn := by omega
      subst hkp
      go_wp2
      go_ret
      exact ⟨_, _, rfl, fun _ => ⟨_, rfl, by omega, hI⟩, unbox hA (by omega)⟩
    have hlt' : (k : Int) < (pn : Int) := by omega
    have hpl := run3_place HF.out.1 hlt
    have hfk := run3_fair (p := pn) HF.out.1 k
    have hwk := within_run3 HF.out.2 k
    have e1 := run3_sq pn B k
    have e2 := run3_gn pn B k
    have e3 := run3_ls pn B k
    have hnx := next_any bm pn _ _ hp2 wr hM
    have E1 : Hid ((run3 pn B (k + 1)).1 = tk (run3 pn B k).1 (pick pn (run3 pn B k).1 (run3 pn B k).2.1 pn).1 ∧ (run3 pn B (k + 1)).2.1 = goneU (run3 pn B k).2.1 (pick pn (run3 pn B k).1 (run3 pn B k).2.1 pn).1 ∧ (run3 pn B (k + 1)).2.2 = fun j => if j = k then ((pick pn (run3 pn B k).1 (run3 pn B k).2.1 pn).1 : Int) else (run3 pn B k).2.2 j) := ⟨e1, e2, e3⟩
    clear e1 e2 e3
    generalize (pick pn (run3 pn B k).1 (run3 pn B k).2.1 pn).1 = a at hpl hnx E1
    go_wp2_with fail
    refine hnx.mono ?_
    rintro e w3 ⟨rfl, hb3⟩
    have hM3 := VHas.next hM hb3
    have hI3 := hI.below hb3 hI.lt
    have hA3 := below_next hA (by simp) hb3
    clear hM hI hA hb3 hnx
    have d0 := hI3.cell hlt
    have z0 := hI3.frozen k
    have hne : bm ≠ w2.heap.size := by omega
    have hM4 := VHas.other (i := k) hM3 hne (.int .i64 (a : Int))
    have hI4 := hI3.set k (a : Int)
    have hA4 := hA3.setCell (p := ⟨w2.heap.size, k, none⟩) (by simp; omega) (.int .i64 (a : Int))
    clear hM3 hI3 hA3
    go_wp2_with fail
    refine (takeAway_any bm pn a _ _ hp2 hpl hfk hwk _ hM4).mono ?_
    rintro e w5 ⟨rfl, hM5, hg5⟩
    have hI5 := hI4.grown hg5 (by simp; omega)
    have hA5 := hA4.trans (gr_below hg5 (by omega) (by have := hA4.size; simpa using this))
    clear hM4 hI4 hA4 hg5 d0 z0
    go_wp2
    go_roundw
    case rel => exact ⟨k + 1, by omega, by go_num, by rw [E1.out.1, E1.out.2.1]; exact hM5, by rw [E1.out.2.2]; exact hI5, hA5⟩
    case measure => simp [intOf]; omega

end Go.Proofs.Ythcgibpiogmmdai

/-
  Ranks, the program's: the same list, in new memory. For every list of at most 2^20 numbers.
-/
set_option linter.unusedVariables false
set_option linter.unusedSimpArgs false
namespace Go.Proofs.Ythcgibpiogmmdai
open Go.RowKit
attribute [local go_sem ↓] Go.wp_at_zero Go.wp_at_succ

set_option maxHeartbeats 1000000 in
theorem implRanks_any (ao : Option Addr) (n cap : Nat) (P : Nat → Int) (hn : n ≤ 1048576) (w : World) (hr : IRow w ao n P) :
    Calls Try.prog 86 #[.slice ao n cap] w fun e w' => Ans w w' e (lenR n P) (rk P (-1) n) := by
  by_cases h2 : 24 < n
  · have h2' : 24 < (n : Int) := by omega
    have hL : lenR n P = 0 := by
      have : ¬ n ≤ 24 := by omega
      simp [lenR, okR, this]
    rw [hL]
    go_enter Try.func86, Try.ntmps86
    go_wp2
    go_ret
    exact ⟨_, _, rfl, fun h => by omega, (Below.refl _ _).alloc (Nat.le_refl _) _⟩
  have h2' : ¬ 24 < (n : Int) := by omega
  have hmk := make_ints n hn
  go_enter Try.func86, Try.ntmps86
  go_wp2
  clear hmk
  go_loopw [16] (fun i wr => ∃ k : Nat, k ≤ n ∧ i = .int .i64 k ∧ IHas wr w.heap.size n (fun j => if j < k then -1 else 0) ∧ Below w.heap.size w wr) (fun i _ => n - (intOf i).toNat)
  case atStart => exact ⟨0, Nat.zero_le _, rfl, (made_ints w n).congr (fun j _ => by simp), (Below.refl _ _).alloc (Nat.le_refl _) _⟩
  case round =>
    obtain ⟨k, hk, rfl, hown, hbel⟩ := hrel
    by_cases hlt : k < n
    · have d0 := hown.cell hlt
      have z0 := hown.frozen k
      have R := hown.set k (-1)
      have S := hbel.setCell (p := ⟨w.heap.size, k, none⟩) (Nat.le_refl _) (.int .i64 (-1))
      clear hown
      go_wp2
      go_roundw
      case rel =>
        refine ⟨k + 1, by omega, by go_num, R.congr (fun j hj => ?_), S⟩
        by_cases e : j = k
        · subst e; simp
        · simp only [if_neg e]
          by_cases hl : j < k
          · rw [if_pos hl, if_pos (by omega)]
          · rw [if_neg hl, if_neg (by omega)]
      case measure => simp [intOf]; omega
    have hkn : k = n := by omega
    subst hkn
    have hown0 := hown.congr (g := rk P (-1) 0) (fun j hj => by simp [rk, hj])
    clear hown
    go_wp2
    go_loopw [25] (fun i wq => ∃ m : Nat, m ≤ k ∧ i = .int .i64 m ∧ eachB k P m = true ∧ IHas wq w.heap.size k (rk P (-1) m) ∧ Below w.heap.size w wq) (fun i _ => k - (intOf i).toNat)
    case atStart => exact ⟨0, Nat.zero_le _, rfl, rfl, hown0, hbel⟩
    case round =>
      clear hown0 hbel
      obtain ⟨m, hm, rfl, hea, hown, hbel⟩ := hrel
      have HE : Hid (eachB k P m = true) := hea
      clear hea
      by_cases hlt : m < k
      rotate_left
      · have hmk : m = k := by omega
        subst hmk
        have HL : Hid (lenR m P = m) := by
          show lenR m P = m
          by_cases h0 : m = 0
          · subst h0; simp [lenR]
          · have h1 : 1 ≤ m := by omega
            have h24 : m ≤ 24 := by omega
            simp [lenR, okR, HE.out, h1, h24]
        go_wp2
        go_ret
        exact ans_of HL.out ⟨_, _, rfl, fun _ => ⟨_, rfl, Nat.le_refl _, hown⟩, hbel⟩
      obtain ⟨b, o, hao, c0⟩ := (hr.below hbel (Nat.le_refl _)) m hlt
      subst hao
      have hm0 : (0 : Int) ≤ (m : Int) := by omega
      have hmk : (m : Int) < (k : Int) := by omega
      rcases Bool.eq_false_or_eq_true (inB (P m) 0 ((k : Int) - 1)) with hi | hi
      rotate_left
      · have HL : Hid (lenR k P = 0) := by
          show lenR k P = 0
          have : eachB k P k = false := eachB_no (k := m) (by simp [eachB, hi]) hlt
          simp [lenR, okR, this]
        go_wp2_with (go_at_call 53; refine (placeOk_any _ _ _).mono ?_; rintro e w1 ⟨rfl, rfl⟩)
        go_ret
        exact ans_of HL.out ⟨_, _, rfl, fun h => by omega, hbel.alloc hbel.size _⟩
      have hq0 : 0 ≤ P m ∧ P m ≤ (k : Int) - 1 := by simpa [inB] using hi
      obtain ⟨q, hq⟩ : ∃ q : Nat, P m = (q : Int) := ⟨(P m).toNat, by omega⟩
      have hS : Hid (∀ j, rk P (-1) (m + 1) j = if j = q then (m : Int) else rk P (-1) m j) := rk_at hq
      have hE : Hid (eachB k P (m + 1) = !sn P m q) := eachB_at HE.out hq hi
      rw [hq] at c0 hi hq0
      clear hq
      have hqn : q < k := by omega
      have d0 := hown.cell hqn
      have z0 := hown.frozen q
      have R := hown.set q (m : Int)
      have S := hbel.setCell (p := ⟨w.heap.size, q, none⟩) (Nat.le_refl _) (.int .i64 (m : Int))
      have hqn' : (q : Int) < (k : Int) := by omega
      have hrs := rk_sn P m q
      rcases Bool.eq_false_or_eq_true (sn P m q) with hs | hs
      · have hge : 0 ≤ rk P (-1) m q := hrs.1 hs
        clear hrs
        have HL : Hid (lenR k P = 0) := by
          show lenR k P = 0
          have : eachB k P k = false := eachB_no (k := m) (by rw [hE.out, hs]; rfl) hlt
          simp [lenR, okR, this]
        go_wp2_with (go_at_call 53; refine (placeOk_any _ _ _).mono ?_; rintro e w1 ⟨rfl, rfl⟩)
        go_ret
        exact ans_of HL.out ⟨_, _, rfl, fun h => by omega, hbel.alloc hbel.size _⟩
      · have hge : ¬ 0 ≤ rk P (-1) m q := fun h => by rw [hrs.2 h] at hs; cases hs
        clear hrs hown
        go_wp2_with (go_at_call 53; refine (placeOk_any _ _ _).mono ?_; rintro e w1 ⟨rfl, rfl⟩)
        go_roundw
        case rel => exact ⟨m + 1, by omega, by go_num, by rw [hE.out, hs]; rfl, R.congr (fun j _ => (hS.out j).symm), S⟩
        case measure => simp [intOf]; omega

end Go.Proofs.Ythcgibpiogmmdai

/-
  OrderOk, the document's and the program's, at every map and every list of at most 2^20 numbers.
-/
set_option linter.unusedVariables false
set_option linter.unusedSimpArgs false
namespace Go.Proofs.Ythcgibpiogmmdai
open Go.RowKit
attribute [local go_sem ↓] Go.wp_at_zero Go.wp_at_succ

set_option maxHeartbeats 1000000 in
theorem implOrderOk_any (p : Int) (ao : Option Addr) (n cap : Nat) (F T G : Nat → Int) (po : Option Addr) (m pcap : Nat) (P : Nat → Int) (hn : n ≤ 1048576) (hm : m ≤ 1048576) (w : World) (hr : Row w ao n F T G) (hp : IRow w po m P) :
    Calls Try.prog 76 #[.agg #[.int .i64 p, .slice ao n cap], .slice po m pcap] w fun e w' => e = .returned (.bool (ordB p n F T G m P)) ∧ Below w.heap.size w w' := by
  rcases Bool.eq_false_or_eq_true (graphB p n F T G) with h | h
  rotate_left
  · go_enter Try.func76, Try.ntmps76
    go_wp2_with (go_at_call 33; refine (implGraphOk_any p ao n cap F T G hn _ (hr.alloc _)).mono ?_; rintro e w1 ⟨rfl, hb1⟩)
    go_ret
    exact ⟨ret_bool (by simp [ordB, h]), unbox hb1 (by simp)⟩
  rcases Bool.eq_false_or_eq_true ((m : Int) == p) with h2 | h2
  rotate_left
  · go_enter Try.func76, Try.ntmps76
    go_wp2_with (go_at_call 33; refine (implGraphOk_any p ao n cap F T G hn _ (hr.alloc _)).mono ?_; rintro e w1 ⟨rfl, hb1⟩; obtain ⟨hc, hf⟩ := bcell hb1)
    go_ret
    exact ⟨ret_bool (by simp only [ordB, h, h2]; rfl), unbox hb1 (by simp)⟩
  have hL : ((lenR m P : Int) == (m : Int)) = okR m P := by
    have hp1 : 1 ≤ p ∧ p ≤ 24 := by
      simp [graphB, inB] at h
      omega
    have hmp : (m : Int) = p := by simpa using h2
    unfold lenR
    cases hk : okR m P
    · rw [Bool.eq_false_iff]; simp; omega
    · simp
  have HL : Hid (((lenR m P : Int) == (m : Int)) = okR m P) := hL
  clear hL
  go_enter Try.func76, Try.ntmps76
  go_wp2_with (first | (go_at_call 33; refine (implGraphOk_any p ao n cap F T G hn _ (hr.alloc _)).mono ?_; rintro e w1 ⟨rfl, hb1⟩; obtain ⟨hc, hf⟩ := bcell hb1) | (go_at_call 86; refine (implRanks_any po m pcap P hm _ ((hp.alloc _).below hb1 (Nat.le_refl _))).mono ?_; rintro e w2 ⟨aoR, capR, rfl, _, hb2⟩))
  go_ret
  exact ⟨ret_bool (by rw [HL.out]; simp only [ordB, h, h2]; rfl), unbox (below_next hb1 (Nat.le_refl _) hb2) (by simp)⟩

end Go.Proofs.Ythcgibpiogmmdai

/-
  Which of two edges goes first: the program's comparison answers a number below nought just where the first one is below the second. No condition.
-/
set_option linter.unusedVariables false
set_option linter.unusedSimpArgs false
namespace Go.Proofs.Ythcgibpiogmmdai
open Go.RowKit
attribute [local go_sem ↓] Go.wp_at_zero Go.wp_at_succ

/-- Which one goes first. -/
def cmpI (x y : Int) : Int := if x < y then -1 else if y < x then 1 else 0
def orI (x y : Int) : Int := if x = 0 then y else x
def cmpE (l h l' h' : Int) : Int := orI (cmpI l l') (cmpI h h')
theorem cmpE_up (l h l' h' : Int) : cmpE l h l' h' < 0 ↔ upB l h l' h' = true := by
  unfold cmpE orI cmpI upB
  by_cases h1 : l < l'
  · simp [h1]
  by_cases h2 : l' < l
  · have : l ≠ l' := by omega
    simp [h1, h2, this]
  have : l = l' := by omega
  subst this
  by_cases h3 : h < h'
  · simp [h3]
  by_cases h4 : h' < h <;> simp [h3, h4]
theorem cmpE_in (l h l' h' : Int) : -1 ≤ cmpE l h l' h' ∧ cmpE l h l' h' ≤ 1 := by
  unfold cmpE orI cmpI
  by_cases h1 : l < l' <;> by_cases h2 : l' < l <;> by_cases h3 : h < h' <;> by_cases h4 : h' < h <;> simp [h1, h2, h3, h4]

theorem isNaN_any (x : Int) (w : World) : Calls Try.prog 99 #[.int .i64 x] w fun e w' => e = .returned (.bool false) ∧ w' = w := by
  go_enter Try.func99, Try.ntmps99
  go_wp2
  go_ret
  exact ⟨by simp, rfl⟩

theorem compare_any (x y : Int) (w : World) : Calls Try.prog 98 #[.int .i64 x, .int .i64 y] w fun e w' => e = .returned (.int .i64 (cmpI x y)) ∧ w' = w := by
  unfold cmpI
  by_cases h1 : x < y
  · go_enter Try.func98, Try.ntmps98
    go_wp2_with (go_at_call 99; refine (isNaN_any _ _).mono ?_; rintro e w1 ⟨rfl, rfl⟩)
    go_ret
    exact ⟨by simp [h1], rfl⟩
  by_cases h2 : y < x <;>
  · go_enter Try.func98, Try.ntmps98
    go_wp2_with (go_at_call 99; refine (isNaN_any _ _).mono ?_; rintro e w1 ⟨rfl, rfl⟩)
    go_ret
    exact ⟨by simp [h1, h2], rfl⟩

theorem or_two (b o c : Nat) (x y : Int) (w : World) (h0 : w.cell? ⟨b, o, none⟩ = some (.int .i64 x)) (h1 : w.cell? ⟨b, o + 1, none⟩ = some (.int .i64 y)) :
    Calls Try.prog 97 #[.slice (some ⟨b, o, none⟩) 2 c] w fun e w' => e = .returned (.int .i64 (orI x y)) ∧ w' = w := by
  unfold orI
  go_enter Try.func97, Try.ntmps97
  go_wp2
  go_loop [8] (fun i => ∃ k : Nat, k ≤ 2 ∧ i = .int .i64 k ∧ (1 ≤ k → x = 0) ∧ (2 ≤ k → y = 0)) (fun i => 2 - (intOf i).toNat)
  case atStart => exact ⟨0, by omega, rfl, fun h => by omega, fun h => by omega⟩
  case round =>
    obtain ⟨k, hk, rfl, hx, hy⟩ := hrel
    have h3 : k = 0 ∨ k = 1 ∨ k = 2 := by omega
    rcases h3 with rfl | rfl | rfl
    · clear hx hy
      by_cases e : x = 0
      · go_wp2
        go_round
        case rel => exact ⟨1, by omega, by go_num, fun _ => e, fun h => by omega⟩
        case measure => simp [intOf]
      · go_wp2
        go_ret
        exact ⟨by simp [e], rfl⟩
    · have hx := hx (by omega)
      subst hx
      clear hy
      by_cases e : y = 0
      · go_wp2
        go_round
        case rel => exact ⟨2, by omega, by go_num, by simp, fun h => e⟩
        case measure => simp [intOf]
      · go_wp2
        go_ret
        exact ⟨by simp, rfl⟩
    · have hx := hx (by omega)
      have hy := hy (by omega)
      subst hx hy
      go_wp2
      go_ret
      exact ⟨by simp, rfl⟩

theorem compareEdges_any (l h l' h' : Int) (w : World) :
    Calls Try.prog 89 #[.agg #[.int .i64 l, .int .i64 h], .agg #[.int .i64 l', .int .i64 h']] w fun e w' => e = .returned (.int .i64 (cmpE l h l' h')) ∧ Below w.heap.size w w' := by
  go_enter Try.func89, Try.ntmps89
  go_wp2_with fail
  have hA : Below w.heap.size w ((w.alloc (.cells #[.int .i64 l, .int .i64 h] 110)).alloc (.cells #[.int .i64 l', .int .i64 h'] 110)) := ((Below.refl _ _).alloc (Nat.le_refl _) _).alloc (by simp) _
  go_region_held3 (fun W => W.cell? ⟨w.heap.size, 0, none⟩ = some (.int .i64 l) ∧ W.cell? ⟨w.heap.size, 1, none⟩ = some (.int .i64 h) ∧ W.cell? ⟨w.heap.size + 1, 0, none⟩ = some (.int .i64 l') ∧ W.cell? ⟨w.heap.size + 1, 1, none⟩ = some (.int .i64 h'))
    (first | go_keep)
    (first | (go_at_call 98; refine (compare_any _ _ _).mono ?_; rintro e w1 ⟨rfl, rfl⟩) | (go_at_call 97; refine (or_two _ _ _ _ _ _ (by simp [go_sem]; rfl) (by simp [go_sem]; rfl)).mono ?_; rintro e w1 ⟨rfl, rfl⟩))
  go_wp2
  go_ret
  exact ⟨rfl, (hA.alloc (by simp; omega) _).drew⟩

end Go.Proofs.Ythcgibpiogmmdai

/-
  The program's generic sort, with the edges' comparison: the same edges, in their order. For lists of at most a million edges.
-/
set_option linter.unusedVariables false
set_option linter.unusedSimpArgs false
namespace Go.Proofs.Ythcgibpiogmmdai
open Go.RowKit
attribute [local go_sem ↓] Go.wp_at_zero Go.wp_at_succ

/-- The front part is in its order, x has been put into it behind a. -/
theorem srt_put {a d : List Pr} {x : Pr} (h : Srt (a ++ d)) (hd : ∀ e ∈ d, lt2 x e) (ha : a = [] ∨ ∃ a' y, a = a' ++ [y] ∧ ¬ lt2 x y) : Srt (a ++ x :: d) := by
  unfold Srt at h ⊢
  rw [List.pairwise_append] at h ⊢
  refine ⟨h.1, ?_, fun e he f hf => ?_⟩
  · rw [List.pairwise_cons]
    refine ⟨fun e he hlt => ?_, h.2.1⟩
    exact lt2_irr x (lt2_trans (hd e he) hlt)
  · simp at hf
    rcases hf with rfl | hf
    · rcases ha with rfl | ⟨a', y, rfl, hy⟩
      · simp at he
      · rw [List.mem_append] at he
        rcases he with he | he
        · have := h.1
          rw [List.pairwise_append] at this
          exact le2_trans (this.2.2 e he y (by simp)) hy
        · simp at he
          subst he; exact hy
    · exact h.2.2 e he f hf

theorem put_perm {a d pre suf l : List Pr} {x : Pr} {k : Nat} (had : a ++ d = pre) (hk : pre.length = k) (h : (pre ++ x :: suf).Perm l) : (a ++ x :: d).length = k + 1 ∧ (a ++ x :: d ++ suf).Perm l := by
  subst had
  refine ⟨by simp at hk ⊢; omega, List.Perm.trans ?_ h⟩
  have e1 : a ++ x :: d ++ suf = a ++ x :: (d ++ suf) := by simp
  have e2 : a ++ d ++ x :: suf = (a ++ d) ++ x :: suf := rfl
  rw [e1]
  refine List.perm_middle.trans (List.Perm.trans ?_ List.perm_middle.symm)
  rw [List.append_assoc]
theorem gr_drewN' (w : World) (n : Nat) (row : Option Nat) : w.grownBy (w.drewN n) row := ⟨rfl, rfl, rfl, Nat.le_refl _, fun _ _ _ => rfl⟩

set_option maxRecDepth 100000 in
set_option maxHeartbeats 4000000 in
theorem sortBy_any (g cap : Nat) (l : List Pr) (hn : l.length ≤ 1000000) (w : World) (hl : ELies w g l) :
    Calls Try.prog 88 #[.slice (some ⟨g, 0, none⟩) l.length cap, .func (.func 89) #[] #[]] w fun e w' => e = .returned (.tuple #[]) ∧ (∃ l' : List Pr, l'.length = l.length ∧ l'.Perm l ∧ Srt l' ∧ ELies w' g l') ∧ w.grownBy w' (some g) := by
  go_enter Try.func88, Try.ntmps88
  go_wp2
  go_loopw [4] (fun x wr => ∃ (k : Nat) (pre suf : List Pr), x = .int .i64 k ∧ 1 ≤ k ∧ pre.length = min k l.length ∧ pre.length + suf.length = l.length ∧ (pre ++ suf).Perm l ∧ Srt pre ∧ ELies wr g (pre ++ suf) ∧ w.grownBy wr (some g)) (fun x _ => l.length - (intOf x).toNat)
  case atStart =>
    match l, hl with
    | [], hl => exact ⟨1, [], [], rfl, Nat.le_refl _, by simp, rfl, List.Perm.refl _, List.Pairwise.nil, hl, World.grownBy.refl _ _⟩
    | x :: t, hl => exact ⟨1, [x], t, rfl, Nat.le_refl _, by simp, by simp; omega, List.Perm.refl _, by simp [Srt], hl, World.grownBy.refl _ _⟩
  case round =>
    obtain ⟨k, pre, suf, rfl, hk1, hpk, hps, hperm, hsrt, hE, hg⟩ := hrel
    by_cases hlt : k < l.length
    rotate_left
    · have hsuf : suf = [] := List.eq_nil_of_length_eq_zero (by omega)
      subst hsuf
      rw [List.append_nil] at hE hperm
      have hlen : pre.length = l.length := by simpa using hps
      go_wp2
      simp [bodyPost, results, Try.results88, go_sem]
      exact ⟨⟨pre, hlen, hperm, hsrt, hE⟩, hg⟩
    have hpk' : pre.length = k := by omega
    match suf, hps with
    | [], hps => simp at hps; omega
    | x :: suf', hps =>
    have HP : Hid ((pre ++ x :: suf').Perm l) := hperm
    clear hperm hpk
    go_wp2
    go_loopw [5] (fun y wq => ∃ (i : Nat) (a d : List Pr), y = .int .i64 i ∧ a.length = i ∧ a ++ d = pre ∧ (∀ e ∈ d, lt2 x e) ∧ ELies wq g (a ++ x :: (d ++ suf')) ∧ w.grownBy wq (some g)) (fun y _ => (intOf y).toNat)
    case atStart => exact ⟨k, pre, [], rfl, hpk', List.append_nil _, fun e he => by simp at he, by simpa using hE, hg⟩
    case round =>
      clear hE hg
      obtain ⟨i, a, d, rfl, hai, had, hdx, hE, hg⟩ := hrel
      by_cases hi : 0 < i
      rotate_left
      · have hd : decide ((0 : Int) < (i : Int)) = false := by simp; omega
        have ha0 : a = [] := List.eq_nil_of_length_eq_zero (by omega)
        have HN : Hid (Srt (a ++ x :: d)) := srt_put (by rw [had]; exact hsrt) hdx (Or.inl ha0)
        have hpl : Hid ((a ++ x :: d).length = k + 1 ∧ (a ++ x :: d ++ suf').Perm l) := put_perm had hpk' HP.out
        have hE' : ELies wr g (a ++ x :: d ++ suf') := by simpa using hE
        go_wp2
        go_quiet (fail)
        go_wp2
        go_roundw
        case rel =>
          have := hpl.out
          exact ⟨k + 1, a ++ x :: d, suf', by go_num, by omega, by omega, by simp at hps; omega, this.2, HN.out, EHas.of_block hE' rfl, hg.trans (gr_drewN' _ _ _)⟩
        case measure => simp [intOf]; omega
      have hane : a ≠ [] := fun e => by subst e; simp at hai; omega
      obtain ⟨a', y, haa⟩ : ∃ a' y, a = a' ++ [y] := ⟨a.dropLast, a.getLast hane, (List.dropLast_concat_getLast hane).symm⟩
      have ha1 : a'.length = i - 1 := by rw [haa] at hai; simp at hai; omega
      have hx := hE.at
      rw [hai] at hx
      obtain ⟨c0, c1⟩ := hx
      have hE2 : ELies wr g (a' ++ y :: x :: (d ++ suf')) := by rw [haa] at hE; simpa using hE
      have hy := hE2.at
      rw [ha1] at hy
      obtain ⟨d0, d1⟩ := hy
      have hin : i < l.length := by
        have := congrArg List.length had
        simp at this
        omega
      have hkd : decide ((0 : Int) < (i : Int)) = true := by simp; omega
      have hi0 : (0 : Int) ≤ (i : Int) := by omega
      have hi2 : (i : Int) < (l.length : Int) := by omega
      have hk1' : (0 : Int) ≤ (i : Int) - 1 := by omega
      have hk2 : (i : Int) - 1 < (l.length : Int) := by omega
      have hk3 : IntKind.i64.wrap ((i : Int) - 1) = (i : Int) - 1 := by rw [IntKind.wrap_i64]; omega
      have hk4 : ((i : Int) - 1).toNat = i - 1 := by omega
      have hk5 : (1 : Int) ≤ (i : Int) := by omega
      have hk6 : (i : Int) ≤ (l.length : Int) := by omega
      have hk7 : 1 ≤ i := by omega
      have hcu := cmpE_up x.1 x.2 y.1 y.2
      have hg1 : w.grownBy wr.drew (some g) := hg.trans ⟨rfl, rfl, rfl, Nat.le_refl _, fun _ _ _ => rfl⟩
      by_cases hlt2 : lt2 x y
      · have hge : cmpE x.1 x.2 y.1 y.2 < 0 := hcu.2 hlt2
        clear hcu
        go_wp2
        go_region_held3 (fun w' => w'.cell? ⟨g, i * 2, none⟩ = some (.int .i64 x.1) ∧ w'.cell? ⟨g, i * 2 + 1, none⟩ = some (.int .i64 x.2) ∧ w'.cell? ⟨g, (i - 1) * 2, none⟩ = some (.int .i64 y.1) ∧ w'.cell? ⟨g, (i - 1) * 2 + 1, none⟩ = some (.int .i64 y.2))
          (first | (go_split_ands; refine ⟨?_, ?_, ?_, ?_⟩ <;> exact keep_cell hb2 (Nat.le_refl _) (by assumption)) | go_keep)
          (first | (go_at_call 89; refine (compareEdges_any _ _ _ _ _).mono ?_; rintro e w2 ⟨rfl, hb2⟩))
        have hg2 : w.grownBy w2 (some g) := hg1.trans ⟨hb2.os, hb2.tape, hb2.output, hb2.size, fun k hk _ => hb2.block k hk⟩
        have hE3 : ELies w2 g (a' ++ y :: x :: (d ++ suf')) := EHas.next (w := wr.drew) (EHas.of_block hE2 rfl) hb2
        have k0 : w2.cell? ⟨g, i * 2, none⟩ = some (.int .i64 x.1) := keep_cell hb2 (Nat.le_refl _) (by exact c0)
        have k1 : w2.cell? ⟨g, i * 2 + 1, none⟩ = some (.int .i64 x.2) := keep_cell hb2 (Nat.le_refl _) (by exact c1)
        have k2 : w2.cell? ⟨g, (i - 1) * 2, none⟩ = some (.int .i64 y.1) := keep_cell hb2 (Nat.le_refl _) (by exact d0)
        have k3 : w2.cell? ⟨g, (i - 1) * 2 + 1, none⟩ = some (.int .i64 y.2) := keep_cell hb2 (Nat.le_refl _) (by exact d1)
        have z0 := EHas.frozen hE3 (i * 2)
        have z1 := EHas.frozen hE3 (i * 2 + 1)
        have z2 := EHas.frozen hE3 ((i - 1) * 2)
        have z3 := EHas.frozen hE3 ((i - 1) * 2 + 1)
        have hii : a'.length + 1 = i := by omega
        have HR : Hid (ELies ((((w2.setCell ⟨g, i * 2, none⟩ (.int .i64 y.1)).setCell ⟨g, i * 2 + 1, none⟩ (.int .i64 y.2)).setCell ⟨g, (i - 1) * 2, none⟩ (.int .i64 x.1)).setCell ⟨g, (i - 1) * 2 + 1, none⟩ (.int .i64 x.2)) g (a' ++ x :: y :: (d ++ suf'))) := by
          have h4 := (((EHas.set hE3 (i * 2) y.1).set (i * 2 + 1) y.2).set ((i - 1) * 2) x.1).set ((i - 1) * 2 + 1) x.2
          have hlen : (a' ++ y :: x :: (d ++ suf')).length = (a' ++ x :: y :: (d ++ suf')).length := by simp
          rw [hlen] at h4
          refine EHas.congr h4 (fun j _ => ?_)
          have := er_swap a' (d ++ suf') x y j
          rw [hii, ha1] at this
          exact this
        have HG : Hid (w.grownBy ((((w2.setCell ⟨g, i * 2, none⟩ (.int .i64 y.1)).setCell ⟨g, i * 2 + 1, none⟩ (.int .i64 y.2)).setCell ⟨g, (i - 1) * 2, none⟩ (.int .i64 x.1)).setCell ⟨g, (i - 1) * 2 + 1, none⟩ (.int .i64 x.2)) (some g)) := (((hg2.trans (gr_setCell _ g _ _)).trans (gr_setCell _ g _ _)).trans (gr_setCell _ g _ _)).trans (gr_setCell _ g _ _)
        have HX : Hid ((∀ e ∈ y :: d, lt2 x e) ∧ a' ++ (y :: d) = pre) := ⟨fun e he => by
          simp at he
          rcases he with rfl | he
          · exact hlt2
          · exact hdx e he, by rw [← had, haa]; simp⟩
        have n1 : ¬ ((i - 1) * 2 = i * 2) := by omega
        have n2 : ¬ ((i - 1) * 2 = i * 2 + 1) := by omega
        have n3 : ¬ ((i - 1) * 2 + 1 = i * 2) := by omega
        have n4 : ¬ ((i - 1) * 2 + 1 = i * 2 + 1) := by omega
        clear hE hE2 hE3 hg hg1 hg2 hb2 c0 c1 d0 d1 hdx had haa hane hlt2 hge
        go_wp2
        go_big_region
        go_wp2
        go_roundw
        case rel => exact ⟨i - 1, a', y :: d, by rw [show ((i - 1 : Nat) : Int) = (i : Int) - 1 by omega], ha1, HX.out.2, HX.out.1, EHas.of_block HR.out rfl, HG.out.trans ⟨rfl, rfl, rfl, Nat.le_refl _, fun _ _ _ => rfl⟩⟩
        case measure => simp [intOf]; omega
      · have hge : ¬ cmpE x.1 x.2 y.1 y.2 < 0 := fun h => hlt2 (hcu.1 h)
        have hged : decide (cmpE x.1 x.2 y.1 y.2 < 0) = false := by simpa using hge
        clear hcu
        have HN : Hid (Srt (a ++ x :: d)) := srt_put (by rw [had]; exact hsrt) hdx (Or.inr ⟨a', y, haa, hlt2⟩)
        have hpl : Hid ((a ++ x :: d).length = k + 1 ∧ (a ++ x :: d ++ suf').Perm l) := put_perm had hpk' HP.out
        have hE' : ELies wr g (a ++ x :: d ++ suf') := by simpa using hE
        go_wp2
        go_region_held3 (fun w' => w'.cell? ⟨g, i * 2, none⟩ = some (.int .i64 x.1) ∧ w'.cell? ⟨g, i * 2 + 1, none⟩ = some (.int .i64 x.2) ∧ w'.cell? ⟨g, (i - 1) * 2, none⟩ = some (.int .i64 y.1) ∧ w'.cell? ⟨g, (i - 1) * 2 + 1, none⟩ = some (.int .i64 y.2))
          (first | (go_split_ands; refine ⟨?_, ?_, ?_, ?_⟩ <;> exact keep_cell hb2 (Nat.le_refl _) (by assumption)) | go_keep)
          (first | (go_at_call 89; refine (compareEdges_any _ _ _ _ _).mono ?_; rintro e w2 ⟨rfl, hb2⟩))
        have hg2 : w.grownBy w2 (some g) := hg1.trans ⟨hb2.os, hb2.tape, hb2.output, hb2.size, fun k hk _ => hb2.block k hk⟩
        have hE3 : ELies w2 g (a ++ x :: d ++ suf') := EHas.next (w := wr.drew) (EHas.of_block hE' rfl) hb2
        clear hE hE2 hE' hg hg1 hb2 c0 c1 d0 d1
        go_wp2
        go_roundw
        case rel =>
          have := hpl.out
          exact ⟨k + 1, a ++ x :: d, suf', by go_num, by omega, by omega, by simp at hps; omega, this.2, HN.out, hE3, hg2⟩
        case measure => simp [intOf]; omega

end Go.Proofs.Ythcgibpiogmmdai

/-
  A region that draws its order, in a round of a range over a function: what holds of it in whatever order in a plain walk holds of it there. (The laws of a fence take nothing first in a round.)
-/
set_option linter.unusedVariables false
set_option linter.unusedSimpArgs false
namespace Go.Proofs.Ythcgibpiogmmdai
open Go

/-- No operation defers a call. -/
def noDefer (ops : Array Oper) : Bool := ops.all fun o => match o.op with | .defer _ => false | _ => true
theorem noDefer_at {ops : Array Oper} (h : noDefer ops = true) {i : Nat} {o : Oper} (hi : ops[i]? = some o) : ∀ c, o.op ≠ .defer c := fun c e => by
  unfold noDefer at h
  rw [Array.all_eq_true] at h
  obtain ⟨hlt, rfl⟩ := Array.getElem?_eq_some_iff.1 hi
  have := h i hlt
  rw [e] at this
  cases this
theorem oper_in {P : Program} {l n : Nat} {o : Oper} {a : Act} {w : World} {K : Act → World → Prop} {Q : Exit → Act → World → Prop} (hd : ∀ c, o.op ≠ .defer c) (h : o.wp P a w K Q) : o.wpIn (Fence.wide.inRound l) n P a w K Q := by
  refine ⟨fun _ _ => trivial, ?_⟩
  rw [Oper.semAt_plain _ _ _ hd]
  unfold Oper.wp at h
  generalize (execOp a.eval o).run P w = r at h
  cases r with
  | ok x w' =>
    cases x <;> simp only [Oper.upon, Oper.uponIn] at h ⊢ <;>
      first
        | exact h
        | exact ⟨fun hh => by simp [Fence.wide] at hh, CallsIn.inRound l (callsIn_wide.2 h)⟩
        | exact ⟨fun hh => by simp [Fence.wide] at hh, fun c cs _ => let ⟨v, w', r, s⟩ := h c cs; ⟨v, w', r, stepsIn_wide.2 s⟩⟩
        | exact h.elim
  | halt x w' => cases x <;> simp only [Oper.upon, Oper.uponIn] at h ⊢ <;> exact h
theorem any_in {P : Program} {l n : Nat} {md : Region.Mode} {ops : Array Oper} {Q : Exit → Act → World → Prop} (hd : noDefer ops = true) (hL : ¬ LetsOut Q) :
    ∀ (fuel : Nat) (listed : Array Bool) (a : Act) (w : World), wpAny P md ops Q fuel listed a w → wpAnyIn (Fence.wide.inRound l) n P md ops Q fuel listed a w
  | 0, _, _, _, h => h
  | fuel + 1, listed, a, w, h => ⟨h.1, fun i hi => by
    have h2 := h.2 i hi
    unfold wpOp at h2
    unfold wpOpIn
    cases ho : ops[i]? with
    | none =>
      rw [ho] at h2
      exact any_in hd hL fuel _ a w h2
    | some o =>
      rw [ho] at h2
      simp only at h2 ⊢
      by_cases hw : Region.wanted o (yielded ops a.tmps) = true
      · rw [if_pos hw] at h2 ⊢
        rcases h2 with h2 | ⟨_, h2⟩
        · exact Oper.wpIn_mono (fun a' w' h' => any_in hd hL fuel _ a' w' h') (oper_in (noDefer_at hd ho) h2)
        · exact absurd h2 hL
      · rw [if_neg hw] at h2 ⊢
        exact ⟨fun _ _ => trivial, any_in hd hL fuel _ _ w h2⟩⟩
theorem region_round {P : Program} {l n id : Nat} {ops : Array Oper} {Q : Exit → Act → World → Prop} {a : Act} {w : World} (S : World → Prop) (hm : P.follows .mixedOrders = true) (hd : noDefer ops = true) (hL : ¬ LetsOut Q)
    (h : wpAnyH P .any ops Q S ops.size (Array.replicate ops.size false) a w.drew) : (Code.region id ops true).wpIn (Fence.wide.inRound l) n P Q a w :=
  wpIn_region_any hm (any_in hd hL _ _ _ _ (wpAny_of_held _ _ _ _ h))

/-- Marks of loops that have ended: taken one after the other when the function leaves. -/
def marks (Ds : List Nat) : List Deferred := Ds.map fun D => { target := .collected D, args := #[] }
def Marked (w : World) (Ds : List Nat) : Prop := Ds.Nodup ∧ ∀ D ∈ Ds, w.heap[D]? = some (.deferred (some []))
theorem leaves_marks {F : Fence} {n : Nat} {P : Program} {fn : Func} {tmps : Array Value} {R : Ending → World → Prop} : ∀ (Ds : List Nat) (w : World), Marked w Ds →
    (∀ w', w'.os = w.os → w'.tape = w.tape → w'.output = w.output → w'.heap.size = w.heap.size → (∀ k, k ∉ Ds → w'.heap[k]? = w.heap[k]?) → LeavesInM F n P fn tmps R [] .returning w') → LeavesInM F n P fn tmps R (marks Ds) .returning w
  | [], w, _, h => h w rfl rfl rfl rfl (fun _ _ => rfl)
  | D :: Ds, w, ⟨hn, hD⟩, h => by
    rw [List.nodup_cons] at hn
    refine ⟨by simp, .inl ⟨D, _, rfl, run_takeDeferred (hD D (by simp)), ?_⟩⟩
    refine leaves_marks Ds _ ⟨hn.2, fun E hE => ?_⟩ (fun w' h1 h2 h3 h4 h5 => ?_)
    · rw [World.putObj_heap_other (fun e => hn.1 (by rw [← e]; exact hE))]
      exact hD E (by simp [hE])
    · refine h w' h1 h2 h3 (by rw [h4]; simp [World.putObj]) (fun k hk => ?_)
      simp at hk
      rw [h5 k hk.2, World.putObj_heap_other hk.1]

end Go.Proofs.Ythcgibpiogmmdai
