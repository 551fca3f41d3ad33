/-
  The program's takeAway: the mesh behind it is the one that the document asks for.
-/
import Derived.Test.YtaddhiojahmbpaaTakeP
import Derived.BigRegion
set_option linter.unusedVariables false
set_option linter.unusedSimpArgs false
namespace Go.Proofs.Ytaddhiojahmbpaa
open Go.RowKit Go.Shelf
attribute [local go_sem] Oper.semAt_some

/-- The iterator for a caller whose own invariant tells the row. -/
theorem iter_seq (n : Nat) (hn : 1 ≤ n) (bM bP bm p place : Nat) (hp : p ≤ 24) (hpl : place < 24) (I : List Nat → World → Prop) (bits : List Nat → Nat → Bool) (hI : ∀ pre W, I pre W → Reads bM bP bm p place W (bits pre)) (G : List Nat → Nat → Prop) (hG : ∀ k, k < p → bits (vis bits k) k = true → G (vis bits k) k) (w : World) :
    SeqAt Fence.wide n Try.prog 96 #[.pointer (some ⟨bM, 0, none⟩), .pointer (some ⟨bP, 0, none⟩)] (fun x : Nat => #[Value.int .i64 (x : Int)]) I G (fun xs => xs = vis bits p) w := fun l J W hW hJ hJI hY h0 => by
  refine (iter_core n hn l bM bP bm p place hp hpl J (fun _ _ => False) bits W hJ (fun pre W1 h => hI _ _ (hJI _ _ h)) ?_ h0).mono ?_
  · intro k W1 hk hb hj
    exact (hY _ _ _ hj (hG k hk hb)).mono (fun e W' h => .inl h)
  · rintro e W' ⟨hv, (h1 | ⟨k, _, _, h1⟩)⟩
    · exact ⟨hv, _, rfl, h1⟩
    · exact h1.elim

theorem SeqAt.inRound {α : Type} {F : Fence} {n : Nat} {P : Program} {gf : Nat} {lb : Array Value} {encs : α → Array Value} {I : List α → World → Prop} {G : List α → α → Prop} {S : List α → Prop} {w : World} (l : Nat) (h : SeqAt F n P gf lb encs I G S w) : SeqAt (F.inRound l) n P gf lb encs I G S w := h

/-- What stands while a place is taken away: four boxes, the mesh; nothing else that lay has turned. -/
structure TW (w : World) (bm : Nat) (p : Int) (a : Nat) (gone : Nat → Bool) (B : Nat → Nat → Bool) (W : World) : Prop where
  b0 : Boxed W w.heap.size 89 (.pointer (some ⟨bm, 0, none⟩))
  b1 : Boxed W (w.heap.size + 1) 2 (.int .i64 (a : Int))
  b2 : Boxed W (w.heap.size + 1 + 1) 89 (.pointer (some ⟨bm, 0, none⟩))
  b3 : Boxed W (w.heap.size + 1 + 1 + 1) 2 (.int .i64 (a : Int))
  mesh : MeshAt W bm p B gone
  gr : w.grownBy W (some bm)
theorem TW.grown {w W W' : World} {bm : Nat} {p : Int} {a : Nat} {gone : Nat → Bool} {B : Nat → Nat → Bool} {row : Option Nat} (h : TW w bm p a gone B W) (hb : bm < w.heap.size) (hg : W.grownBy W' row) (hr : ∀ r, row = some r → w.heap.size + 1 + 1 + 1 < r) : TW w bm p a gone B W' := by
  have hne : ∀ k, k ≤ w.heap.size + 1 + 1 + 1 → some k ≠ row := fun k hk e => by have := hr k e.symm; omega
  refine ⟨h.b0.kept hg (hne _ (by omega)), h.b1.kept hg (hne _ (by omega)), h.b2.kept hg (hne _ (by omega)), h.b3.kept hg (hne _ (by omega)), VHas.grown h.mesh hg (hne _ (by omega)), ?_⟩
  refine ⟨hg.os.trans h.gr.os, hg.tape.trans h.gr.tape, hg.output.trans h.gr.output, Nat.le_trans h.gr.size hg.size, fun k hk hnk => ?_⟩
  exact (hg.block k (Nat.lt_of_lt_of_le hk h.gr.size) (hne k (by omega))).trans (h.gr.block k hk hnk)
theorem TW.alloc {w W : World} {bm : Nat} {p : Int} {a : Nat} {gone : Nat → Bool} {B : Nat → Nat → Bool} (h : TW w bm p a gone B W) (hb : bm < w.heap.size) (o : Obj) : TW w bm p a gone B (W.alloc o) := h.grown hb (World.grownBy_alloc W o none) (fun r e => by cases e)
theorem TW.turn {w W W' : World} {bm : Nat} {p : Int} {a : Nat} {gone : Nat → Bool} {B B' : Nat → Nat → Bool} (h : TW w bm p a gone B W) (hb : bm < w.heap.size) (hm : MeshAt W' bm p B' gone) (hg : W.grownBy W' (some bm)) : TW w bm p a gone B' W' :=
  ⟨h.b0.kept hg (by simp; omega), h.b1.kept hg (by simp; omega), h.b2.kept hg (by simp; omega), h.b3.kept hg (by simp; omega), hm, h.gr.trans hg⟩
theorem TW.same {w W : World} {bm : Nat} {p : Int} {a : Nat} {gone : Nat → Bool} {B B' : Nat → Nat → Bool} (h : TW w bm p a gone B W) (e : ∀ x y, B x y = B' x y) : TW w bm p a gone B' W :=
  ⟨h.b0, h.b1, h.b2, h.b3, h.mesh.same (fun x y _ _ => e x y), h.gr⟩
theorem TW.own {β : Type} {w : World} {bm : Nat} {p : Int} {a : Nat} {gone : Nat → Bool} {B0 : Nat} (hb : bm < w.heap.size) (hB : w.heap.size + 1 + 1 + 1 < B0) (f : β → Nat → Nat → Bool) : OwnFrom B0 (fun s W => TW w bm p a gone (f s) W) :=
  fun s X Y row hs hg hr => hs.grown hb hg (fun r e => by have := (hr r e).1; omega)
theorem keeps_grown {B0 bm : Nat} {W W' : World} (hb : bm < B0) (hg : W.grownBy W' (some bm)) : KeepsFrom B0 W W' := KeepsFrom.of_grownBy hg (fun j e => by cases e; exact hb)

set_option maxRecDepth 100000 in
set_option maxHeartbeats 8000000 in
theorem takeAway_any (bm p a : Nat) (B : Nat → Nat → Bool) (gone : Nat → Bool) (hp : p ≤ 24) (ha : a < p) (hB : Fair B) (hW : Within p B) (w : World) (hM : MeshAt w bm (p : Int) B gone) :
    Calls Try.prog 69 #[.pointer (some ⟨bm, 0, none⟩), .int .i64 (a : Int)] w fun e w' => e = .returned (.tuple #[]) ∧ MeshAt w' bm (p : Int) (tk B a) (goneU gone a) ∧ w.grownBy w' (some bm) := by
  have hml := VHas.lt hM
  refine (callsIn_wide (n := 8)).1 ?_
  refine callsIn_of_wp_marks Try.func69 rfl trivial ?_ rfl
  simp only [Try.ntmps69, List.size_toArray, List.length_cons, List.length_nil, Nat.reduceAdd, Nat.reduceSub, Array.replicate_succ, Array.replicate_zero, List.push_toArray, List.append_toArray, List.nil_append, List.cons_append]
  gi_wp2_with (refine ⟨trivial, ?_⟩; gi_at_call 74; refine (callsIn_wide.2 (neighbours_any bm (a : Int) _)).mono ?_; rintro e w' ⟨rfl, rfl⟩)
  have h0 := (((Boxed.new w 89 (.pointer (some ⟨bm, 0, none⟩))).alloc (.cells #[.int .i64 (a : Int)] 2)).alloc (.cells #[.pointer (some ⟨bm, 0, none⟩)] 89)).alloc (.cells #[.int .i64 (a : Int)] 2)
  have h1 := ((Boxed.new (w.alloc (.cells #[.pointer (some ⟨bm, 0, none⟩)] 89)) 2 (.int .i64 (a : Int))).alloc (.cells #[.pointer (some ⟨bm, 0, none⟩)] 89)).alloc (.cells #[.int .i64 (a : Int)] 2)
  have h2 := (Boxed.new ((w.alloc (.cells #[.pointer (some ⟨bm, 0, none⟩)] 89)).alloc (.cells #[.int .i64 (a : Int)] 2)) 89 (.pointer (some ⟨bm, 0, none⟩))).alloc (.cells #[.int .i64 (a : Int)] 2)
  have h3 := Boxed.new (((w.alloc (.cells #[.pointer (some ⟨bm, 0, none⟩)] 89)).alloc (.cells #[.int .i64 (a : Int)] 2)).alloc (.cells #[.pointer (some ⟨bm, 0, none⟩)] 89)) 2 (.int .i64 (a : Int))
  simp only [World.size_alloc] at h1 h2 h3
  have hB0 : Below w.heap.size w ((((w.alloc (.cells #[.pointer (some ⟨bm, 0, none⟩)] 89)).alloc (.cells #[.int .i64 (a : Int)] 2)).alloc (.cells #[.pointer (some ⟨bm, 0, none⟩)] 89)).alloc (.cells #[.int .i64 (a : Int)] 2)) := ((((Below.refl _ w).alloc (Nat.le_refl _) _).alloc (by simp) _).alloc (by simp; omega) _).alloc (by simp; omega) _
  have hM0 := VHas.below hM hB0 hml
  have hsz : ((((w.alloc (.cells #[.pointer (some ⟨bm, 0, none⟩)] 89)).alloc (.cells #[.int .i64 (a : Int)] 2)).alloc (.cells #[.pointer (some ⟨bm, 0, none⟩)] 89)).alloc (.cells #[.int .i64 (a : Int)] 2)).heap.size = w.heap.size + 4 := by simp
  generalize ((((w.alloc (.cells #[.pointer (some ⟨bm, 0, none⟩)] 89)).alloc (.cells #[.int .i64 (a : Int)] 2)).alloc (.cells #[.pointer (some ⟨bm, 0, none⟩)] 89)).alloc (.cells #[.int .i64 (a : Int)] 2)) = W0 at h0 h1 h2 h3 hB0 hM0 hsz ⊢
  have hT0 : TW w bm (p : Int) a gone (stI B a []) W0 := (TW.same ⟨h0, h1, h2, h3, hM0, ⟨hB0.os, hB0.tape, hB0.output, hB0.size, fun k hk _ => hB0.block k hk⟩⟩ (fun x y => (stI_start hB a x y).symm))
  clear h0 h1 h2 h3 hM0 hB0
  gi_wp2
  have hrow : ∀ (pre : List Nat) (W : World), TW w bm (p : Int) a gone (stI B a pre) W → Reads (w.heap.size + 1 + 1) (w.heap.size + 1 + 1 + 1) bm p a W ((fun (pre : List Nat) j => B a j && !pre.contains j) pre) := fun pre W h => by
    have := Reads.of_mesh (by omega) h.b2.cell h.b3.cell h.mesh
    rw [stI_row] at this
    exact this
  have hgood : ∀ k, k < p → (fun (pre : List Nat) j => B a j && !pre.contains j) (vis (fun (pre : List Nat) j => B a j && !pre.contains j) k) k = true → (fun (pre : List Nat) (x : Nat) => x < p ∧ B a x = true ∧ x ≠ a) (vis (fun (pre : List Nat) j => B a j && !pre.contains j) k) k := fun k hk hb => by
    simp only [Bool.and_eq_true] at hb
    exact ⟨hk, hb.1, fun e => by rw [e, hB.2] at hb; cases hb.1⟩
  refine range_alone rfl (by omega) (gf := 96) (lb := #[.pointer (some ⟨w.heap.size + 1 + 1, 0, none⟩), .pointer (some ⟨w.heap.size + 1 + 1 + 1, 0, none⟩)]) rfl trivial (enters_of Try.func96 (by kernel_rfl) rfl)
    (encs := fun x : Nat => #[Value.int .i64 (x : Int)]) (fun _ => rfl) (fun pre W => TW w bm (p : Int) a gone (stI B a pre) W) (TW.own hml (by omega) _) hT0
    (iter_seq 7 (by omega) (w.heap.size + 1 + 1) (w.heap.size + 1 + 1 + 1) bm p a hp (by omega) _ (fun pre j => B a j && !pre.contains j) hrow (fun pre x => x < p ∧ B a x = true ∧ x ≠ a) hgood W0)
    (fun x a' W => ∃ Bx, W0.heap.size ≤ Bx ∧ Boxed W Bx 2 (.int .i64 (x : Int)) ∧ a' = { tmps := #[.pointer (some ⟨bm, 0, none⟩), .int .i64 (a : Int), .pointer (some ⟨w.heap.size, 0, none⟩), .pointer (some ⟨w.heap.size + 1, 0, none⟩), .pointer (some ⟨Bx, 0, none⟩), undef, .pointer (some ⟨bm, 0, none⟩), .int .i64 (a : Int), .func (.func 96) #[] #[.pointer (some ⟨w.heap.size + 1 + 1, 0, none⟩), .pointer (some ⟨w.heap.size + 1 + 1 + 1, 0, none⟩)], .int .i64 (x : Int), undef, undef, undef, undef, undef, undef, undef, undef, undef, undef, undef, undef, undef, undef, undef, undef, undef], defers := [] })
    (fun x a' _ X Y row hs hg hr => by obtain ⟨Bx, h1, h2, h3⟩ := hs; exact ⟨Bx, h1, boxed_own Bx 2 (fun (_ : Unit) => Value.int .i64 (x : Int)) () X Y row h2 hg (fun r e => (hr r e).2), h3⟩)
    ?assign ?body ?done
  case assign =>
    rintro l pre x W K hi _ hK
    have hsW := hi.b3.lt
    gi_wp2
    exact hK _ _ ((KeepsOthers.alloc _ _).from _) (hi.alloc hml _) ⟨W.heap.size, by omega, Boxed.new W 2 _, rfl⟩
  case body =>
    rintro l pre x a' W hl ⟨r, hr⟩ hi ⟨hxp, hbx, hxa⟩ ⟨Bx, hBx, bX, rfl⟩
    have c0 := hi.b0.cell
    have c1 := hi.b1.cell
    have cX := bX.cell
    have hax : a ≠ x := fun e => hxa e.symm
    have hlt := (Array.getElem?_eq_some_iff.1 hr).1
    gi_wp2_with fail
    refine ⟨trivial, ?_⟩
    refine (CallsIn.inRound l (callsIn_wide.2 (part_any bm a x (p : Int) _ gone (by omega) (by omega) hax _ hi.mesh))).mono ?_
    rintro e w2 ⟨rfl, hM2, hg2⟩
    have hT2 := (hi.turn hml hM2 hg2).same (stI_part B pre hxa)
    have bX2 := bX.kept hg2 (by simp; omega)
    have hk2 : KeepsFrom W0.heap.size W w2 := keeps_grown (by omega) hg2
    have hr2 := hk2.same l _ hl hr rfl
    have d0 := hT2.b0.cell
    have d1 := hT2.b1.cell
    have hs2 := hT2.b3.lt
    clear hM2 hg2 c0 c1 cX hi bX
    gi_wp2_with fail
    refine ⟨trivial, ?_⟩
    refine (CallsIn.inRound l (callsIn_wide.2 (neighbours_any bm (a : Int) _))).mono ?_
    rintro e w' ⟨rfl, rfl⟩
    have e2 := (Boxed.new w2 89 (.pointer (some ⟨bm, 0, none⟩))).alloc (.cells #[.int .i64 (a : Int)] 2)
    have e3 := Boxed.new (w2.alloc (.cells #[.pointer (some ⟨bm, 0, none⟩)] 89)) 2 (.int .i64 (a : Int))
    simp only [World.size_alloc] at e3
    have hT3 := (hT2.alloc hml (.cells #[.pointer (some ⟨bm, 0, none⟩)] 89)).alloc hml (.cells #[.int .i64 (a : Int)] 2)
    have bX3 := (bX2.alloc (.cells #[.pointer (some ⟨bm, 0, none⟩)] 89)).alloc (.cells #[.int .i64 (a : Int)] 2)
    have hk3 := hk2.trans ((((KeepsOthers.alloc w2 (.cells #[.pointer (some ⟨bm, 0, none⟩)] 89)).trans (KeepsOthers.alloc _ (.cells #[.int .i64 (a : Int)] 2))).from W0.heap.size))
    have hr3 := hk3.same l _ hl hr rfl
    have hs3 : ((w2.alloc (.cells #[.pointer (some ⟨bm, 0, none⟩)] 89)).alloc (.cells #[.int .i64 (a : Int)] 2)).heap.size = w2.heap.size + 2 := by simp
    generalize (w2.alloc (.cells #[.pointer (some ⟨bm, 0, none⟩)] 89)).alloc (.cells #[.int .i64 (a : Int)] 2) = W3 at e2 e3 hT3 bX3 hk3 hr3 hs3 ⊢
    clear hT2 bX2 hk2 hr2 d0 d1
    have hrow2 : ∀ (pre' : List Nat) (W' : World), ((TW w bm (p : Int) a gone (stJ B a pre x pre') W' ∧ Boxed W' Bx 2 (.int .i64 (x : Int))) ∧ (Boxed W' w2.heap.size 89 (.pointer (some ⟨bm, 0, none⟩)) ∧ Boxed W' (w2.heap.size + 1) 2 (.int .i64 (a : Int)))) ∧ KeepsFrom W0.heap.size W W' → Reads w2.heap.size (w2.heap.size + 1) bm p a W' ((fun (_ : List Nat) j => B a j && !(pre ++ [x]).contains j) pre') := fun pre' W' h => by
      have := Reads.of_mesh (by omega) h.1.2.1.cell h.1.2.2.cell h.1.1.1.mesh
      rw [stJ_row] at this
      exact this
    have hgood2 : ∀ k, k < p → (fun (_ : List Nat) j => B a j && !(pre ++ [x]).contains j) (vis (fun (_ : List Nat) j => B a j && !(pre ++ [x]).contains j) k) k = true → (fun (_ : List Nat) (y : Nat) => y < p ∧ y ≠ a ∧ x ≠ y) (vis (fun (_ : List Nat) j => B a j && !(pre ++ [x]).contains j) k) k := fun k hk hb => by
      simp only [Bool.and_eq_true, contains_snoc] at hb
      show k < p ∧ k ≠ a ∧ x ≠ k
      refine ⟨hk, fun e => (by rw [e, hB.2] at hb; cases hb.1), fun e => ?_⟩
      have := hb.2
      rw [e] at this
      simp at this
    gi_wp2
    refine range_within (l₀ := l) (r₀ := r) rfl hr3 (by omega) (gf := 96) (lb := #[.pointer (some ⟨w2.heap.size, 0, none⟩), .pointer (some ⟨w2.heap.size + 1, 0, none⟩)]) rfl trivial (enters_of Try.func96 (by kernel_rfl) rfl)
      (encs := fun x : Nat => #[Value.int .i64 (x : Int)]) (fun _ => rfl) (fun pre' W' => ((TW w bm (p : Int) a gone (stJ B a pre x pre') W' ∧ Boxed W' Bx 2 (.int .i64 (x : Int))) ∧ (Boxed W' w2.heap.size 89 (.pointer (some ⟨bm, 0, none⟩)) ∧ Boxed W' (w2.heap.size + 1) 2 (.int .i64 (a : Int)))) ∧ KeepsFrom W0.heap.size W W')
      (OwnFrom.and (OwnFrom.and (OwnFrom.and (TW.own hml (by omega) _) (Own.from (boxed_own _ _ _) _)) (OwnFrom.and (Own.from (boxed_own _ _ _) _) (Own.from (boxed_own _ _ _) _))) (ownFrom_keepsFrom hk3.size)) ⟨⟨⟨hT3, bX3⟩, e2, e3⟩, hk3⟩
      ((iter_seq (8 - 1 - 1 - 1) (by omega) w2.heap.size (w2.heap.size + 1) bm p a hp (by omega) _ (fun _ j => B a j && !(pre ++ [x]).contains j) hrow2 (fun _ y => y < p ∧ y ≠ a ∧ x ≠ y) hgood2 W3).inRound l)
      (fun y a'' _ => a'' = { tmps := #[.pointer (some ⟨bm, 0, none⟩), .int .i64 (a : Int), .pointer (some ⟨w.heap.size, 0, none⟩), .pointer (some ⟨w.heap.size + 1, 0, none⟩), .pointer (some ⟨Bx, 0, none⟩), .int .i64 (y : Int), .pointer (some ⟨bm, 0, none⟩), .int .i64 (a : Int), .func (.func 96) #[] #[.pointer (some ⟨w.heap.size + 1 + 1, 0, none⟩), .pointer (some ⟨w.heap.size + 1 + 1 + 1, 0, none⟩)], .int .i64 (x : Int), .pointer (some ⟨bm, 0, none⟩), .int .i64 (a : Int), .int .i64 (x : Int), .tuple #[], .pointer (some ⟨bm, 0, none⟩), .int .i64 (a : Int), .func (.func 96) #[] #[.pointer (some ⟨w2.heap.size, 0, none⟩), .pointer (some ⟨w2.heap.size + 1, 0, none⟩)], .int .i64 (y : Int), undef, undef, undef, undef, undef, undef, undef, undef, undef], defers := [] })
      (fun _ _ _ _ _ _ hs _ _ => hs)
      ?assign2 ?body2 ?done2
    case assign2 =>
      rintro l2 pre' y W' K hi' _ hK
      gi_wp2
      exact hK _ _ (KeepsFrom.refl _ _) hi' rfl
    case body2 =>
      rintro l2 pre' y a'' W' _ _ ⟨⟨⟨hT', bX'⟩, f2, f3⟩, hk'⟩ ⟨hyp, hya, hxy⟩ rfl
      have d0 := hT'.b0.cell
      have d1 := bX'.cell
      have hsl := bX'.lt
      gi_wp2_with (refine ⟨trivial, ?_⟩; gi_at_call 90; refine (CallsIn.inRound l2 (callsIn_wide.2 (join_any bm x y (p : Int) _ gone (by omega) (by omega) hxy _ hT'.mesh))).mono ?_; rintro e w5 ⟨rfl, hM5, hg5⟩)
      exact ⟨rfl, keeps_grown (by omega) hg5, ⟨⟨(hT'.turn hml hM5 hg5).same (stJ_join B pre pre' hxa hya), bX'.kept hg5 (by simp; omega)⟩, f2.kept hg5 (by simp; omega), f3.kept hg5 (by simp; omega)⟩, hk'.trans (keeps_grown (by omega) hg5)⟩
    case done2 =>
      rintro ys W' rfl ⟨⟨⟨hT', bX'⟩, f2, f3⟩, hk'⟩
      gi_wp2
      exact ⟨rfl, hk', hT'.same (stJ_end hW hbx)⟩
  case done =>
    rintro D xs W hD rfl hi hK
    rw [vis_struck] at hi
    replace hi := hi.same (stI_end hW)
    have c0 := hi.b0.cell
    have c1 := hi.b1.cell
    have c2 := hi.mesh.gone (show a < 24 by omega)
    have z2 := VHas.frozen hi.mesh (577 + a)
    have ha' : (a : Int) < 24 := by omega
    gi_wp2
    refine wpIn_wide.2 ?_
    go_big_region
    have hM2 := hi.mesh.go (show a < 24 by omega)
    have hg2 : w.grownBy ((W.setCell ⟨bm, 577 + a, none⟩ (.bool true)).drew) (some bm) := (hi.gr.trans (gr_setCell W bm (577 + a) (.bool true))).trans ⟨rfl, rfl, rfl, Nat.le_refl _, fun _ _ _ => rfl⟩
    have hK2 : ((W.setCell ⟨bm, 577 + a, none⟩ (.bool true)).drew).heap[D]? = some (.deferred (some [])) := (KeepsOthers.setCell W _ _).same D _ hK rfl
    have hM3 : MeshAt ((W.setCell ⟨bm, 577 + a, none⟩ (.bool true)).drew) bm (p : Int) (tk B a) (goneU gone a) := VHas.of_block hM2 rfl
    refine ⟨by simp, .inl ⟨_, _, rfl, run_takeDeferred hK2, ?_⟩⟩
    refine ⟨_, results_none rfl _ _ _, rfl, VHas.of_block hM3 (World.putObj_heap_other (by omega)), ?_⟩
    refine ⟨hg2.os, hg2.tape, hg2.output, by simpa using hg2.size, fun k hk hne => ?_⟩
    rw [World.putObj_heap_other (by omega)]
    exact hg2.block k hk hne

end Go.Proofs.Ytaddhiojahmbpaa
