/-
  Helpers: TakeAway, CountTo, OrdImpl, RankImpl, OrderOk, Cmp.
-/
import Derived.Test.YthmpliljffmmcaaGreatDoorPack1
import Derived.Test.YthmpliljffmmcaaGreatDoorPack6
import Derived.Test.YthmpliljffmmcaaGreatDoorPack2
import Derived.BigRegion
import Derived.Test.YthmpliljffmmcaaGreatDoorPack4
import Derived.Test.YthmpliljffmmcaaGreatDoorPack5
set_option linter.unusedVariables false
set_option linter.unusedSimpArgs false
namespace Go.Proofs.YthmpliljffmmcaaGreatDoor
section
open Go.RowKit Go.Shelf
attribute [local go_sem] Oper.semAt_some
theorem iter_seq (n : Nat) (hn : 1 ≤ n) (bM bP bm p place : Nat) (hp : p ≤ 24) (hpl : place < 24) (I : List Nat → World → Prop) (bits : List Nat → Nat → Bool) (hI : ∀ pre W, I pre W → Reads bM bP bm p place W (bits pre)) (G : List Nat → Nat → Prop) (hG : ∀ k, k < p → bits (vis bits k) k = true → G (vis bits k) k) (w : World) :
    SeqAt Fence.wide n Tryz.prog 96 #[.pointer (some ⟨bM, 0, none⟩), .pointer (some ⟨bP, 0, none⟩)] (fun x : Nat => #[Value.int .i64 (x : Int)]) I G (fun xs => xs = vis bits p) w := fun l J W hW hJ hJI hY h0 => by
  refine (iter_core n hn l bM bP bm p place hp hpl J (fun _ _ => False) bits W hJ (fun pre W1 h => hI _ _ (hJI _ _ h)) ?_ h0).mono ?_
  · intro k W1 hk hb hj
    exact (hY _ _ _ hj (hG k hk hb)).mono (fun e W' h => .inl h)
  · rintro e W' ⟨hv, (h1 | ⟨k, _, _, h1⟩)⟩
    · exact ⟨hv, _, rfl, h1⟩
    · exact h1.elim
theorem SeqAt.inRound {α : Type} {F : Fence} {n : Nat} {P : Program} {gf : Nat} {lb : Array Value} {encs : α → Array Value} {I : List α → World → Prop} {G : List α → α → Prop} {S : List α → Prop} {w : World} (l : Nat) (h : SeqAt F n P gf lb encs I G S w) : SeqAt (F.inRound l) n P gf lb encs I G S w := h
structure TW (w : World) (bm : Nat) (p : Int) (a : Nat) (gone : Nat → Bool) (B : Nat → Nat → Bool) (W : World) : Prop where
  b0 : Boxed W w.heap.size 116 (.pointer (some ⟨bm, 0, none⟩))
  b1 : Boxed W (w.heap.size + 1) 2 (.int .i64 (a : Int))
  b2 : Boxed W (w.heap.size + 1 + 1) 116 (.pointer (some ⟨bm, 0, none⟩))
  b3 : Boxed W (w.heap.size + 1 + 1 + 1) 2 (.int .i64 (a : Int))
  mesh : MeshAt W bm p B gone
  gr : w.grownBy W (some bm)
theorem TW.grown {w W W' : World} {bm : Nat} {p : Int} {a : Nat} {gone : Nat → Bool} {B : Nat → Nat → Bool} {row : Option Nat} (h : TW w bm p a gone B W) (hb : bm < w.heap.size) (hg : W.grownBy W' row) (hr : ∀ r, row = some r → w.heap.size + 1 + 1 + 1 < r) : TW w bm p a gone B W' := by
  have hne : ∀ k, k ≤ w.heap.size + 1 + 1 + 1 → some k ≠ row := fun k hk e => by have := hr k e.symm; omega
  refine ⟨h.b0.kept hg (hne _ (by omega)), h.b1.kept hg (hne _ (by omega)), h.b2.kept hg (hne _ (by omega)), h.b3.kept hg (hne _ (by omega)), VHas.grown h.mesh hg (hne _ (by omega)), ?_⟩
  refine ⟨hg.os.trans h.gr.os, hg.tape.trans h.gr.tape, hg.output.trans h.gr.output, Nat.le_trans h.gr.size hg.size, fun k hk hnk => ?_⟩
  exact (hg.block k (Nat.lt_of_lt_of_le hk h.gr.size) (hne k (by omega))).trans (h.gr.block k hk hnk)
theorem TW.alloc {w W : World} {bm : Nat} {p : Int} {a : Nat} {gone : Nat → Bool} {B : Nat → Nat → Bool} (h : TW w bm p a gone B W) (hb : bm < w.heap.size) (o : Obj) : TW w bm p a gone B (W.alloc o) := h.grown hb (World.grownBy_alloc W o none) (fun r e => by cases e)
theorem TW.turn {w W W' : World} {bm : Nat} {p : Int} {a : Nat} {gone : Nat → Bool} {B B' : Nat → Nat → Bool} (h : TW w bm p a gone B W) (hb : bm < w.heap.size) (hm : MeshAt W' bm p B' gone) (hg : W.grownBy W' (some bm)) : TW w bm p a gone B' W' :=
  ⟨h.b0.kept hg (by simp; omega), h.b1.kept hg (by simp; omega), h.b2.kept hg (by simp; omega), h.b3.kept hg (by simp; omega), hm, h.gr.trans hg⟩
theorem TW.same {w W : World} {bm : Nat} {p : Int} {a : Nat} {gone : Nat → Bool} {B B' : Nat → Nat → Bool} (h : TW w bm p a gone B W) (e : ∀ x y, B x y = B' x y) : TW w bm p a gone B' W :=
  ⟨h.b0, h.b1, h.b2, h.b3, h.mesh.same (fun x y _ _ => e x y), h.gr⟩
theorem TW.own {β : Type} {w : World} {bm : Nat} {p : Int} {a : Nat} {gone : Nat → Bool} {B0 : Nat} (hb : bm < w.heap.size) (hB : w.heap.size + 1 + 1 + 1 < B0) (f : β → Nat → Nat → Bool) : OwnFrom B0 (fun s W => TW w bm p a gone (f s) W) :=
  fun s X Y row hs hg hr => hs.grown hb hg (fun r e => by have := (hr r e).1; omega)
theorem keeps_grown {B0 bm : Nat} {W W' : World} (hb : bm < B0) (hg : W.grownBy W' (some bm)) : KeepsFrom B0 W W' := KeepsFrom.of_grownBy hg (fun j e => by cases e; exact hb)
set_option maxRecDepth 100000 in
set_option maxHeartbeats 8000000 in
theorem takeAway_any (bm p a : Nat) (B : Nat → Nat → Bool) (gone : Nat → Bool) (hp : p ≤ 24) (ha : a < p) (hB : Fair B) (hW : Within p B) (w : World) (hM : MeshAt w bm (p : Int) B gone) :
    Calls Tryz.prog 81 #[.pointer (some ⟨bm, 0, none⟩), .int .i64 (a : Int)] w fun e w' => e = .returned (.tuple #[]) ∧ MeshAt w' bm (p : Int) (tk B a) (goneU gone a) ∧ w.grownBy w' (some bm) := by
  have hml := VHas.lt hM
  refine (callsIn_wide (n := 8)).1 ?_
  refine callsIn_of_wp_marks Tryz.func81 rfl trivial ?_ rfl
  simp only [Tryz.ntmps81, List.size_toArray, List.length_cons, List.length_nil, Nat.reduceAdd, Nat.reduceSub, Array.replicate_succ, Array.replicate_zero, List.push_toArray, List.append_toArray, List.nil_append, List.cons_append]
  gi_wp2_with (refine ⟨trivial, ?_⟩; gi_at_call 80; refine (callsIn_wide.2 (neighbours_any bm (a : Int) _)).mono ?_; rintro e w' ⟨rfl, rfl⟩)
  have h0 := (((Boxed.new w 116 (.pointer (some ⟨bm, 0, none⟩))).alloc (.cells #[.int .i64 (a : Int)] 2)).alloc (.cells #[.pointer (some ⟨bm, 0, none⟩)] 116)).alloc (.cells #[.int .i64 (a : Int)] 2)
  have h1 := ((Boxed.new (w.alloc (.cells #[.pointer (some ⟨bm, 0, none⟩)] 116)) 2 (.int .i64 (a : Int))).alloc (.cells #[.pointer (some ⟨bm, 0, none⟩)] 116)).alloc (.cells #[.int .i64 (a : Int)] 2)
  have h2 := (Boxed.new ((w.alloc (.cells #[.pointer (some ⟨bm, 0, none⟩)] 116)).alloc (.cells #[.int .i64 (a : Int)] 2)) 116 (.pointer (some ⟨bm, 0, none⟩))).alloc (.cells #[.int .i64 (a : Int)] 2)
  have h3 := Boxed.new (((w.alloc (.cells #[.pointer (some ⟨bm, 0, none⟩)] 116)).alloc (.cells #[.int .i64 (a : Int)] 2)).alloc (.cells #[.pointer (some ⟨bm, 0, none⟩)] 116)) 2 (.int .i64 (a : Int))
  simp only [World.size_alloc] at h1 h2 h3
  have hB0 : Below w.heap.size w ((((w.alloc (.cells #[.pointer (some ⟨bm, 0, none⟩)] 116)).alloc (.cells #[.int .i64 (a : Int)] 2)).alloc (.cells #[.pointer (some ⟨bm, 0, none⟩)] 116)).alloc (.cells #[.int .i64 (a : Int)] 2)) := ((((Below.refl _ w).alloc nl _).alloc (by simp) _).alloc (by simp; omega) _).alloc (by simp; omega) _
  have hM0 := VHas.below hM hB0 hml
  have hsz : ((((w.alloc (.cells #[.pointer (some ⟨bm, 0, none⟩)] 116)).alloc (.cells #[.int .i64 (a : Int)] 2)).alloc (.cells #[.pointer (some ⟨bm, 0, none⟩)] 116)).alloc (.cells #[.int .i64 (a : Int)] 2)).heap.size = w.heap.size + 4 := by simp
  generalize ((((w.alloc (.cells #[.pointer (some ⟨bm, 0, none⟩)] 116)).alloc (.cells #[.int .i64 (a : Int)] 2)).alloc (.cells #[.pointer (some ⟨bm, 0, none⟩)] 116)).alloc (.cells #[.int .i64 (a : Int)] 2)) = W0 at h0 h1 h2 h3 hB0 hM0 hsz ⊢
  have hT0 : TW w bm (p : Int) a gone (stI B a []) W0 := (TW.same ⟨h0, h1, h2, h3, hM0, ⟨hB0.os, hB0.tape, hB0.output, hB0.size, fun k hk _ => hB0.block k hk⟩⟩ (fun x y => (stI_start hB a x y).symm))
  clear h0 h1 h2 h3 hM0 hB0
  gi_wp2
  have hrow : ∀ (pre : List Nat) (W : World), TW w bm (p : Int) a gone (stI B a pre) W → Reads (w.heap.size + 1 + 1) (w.heap.size + 1 + 1 + 1) bm p a W ((fun (pre : List Nat) j => B a j && !pre.contains j) pre) := fun pre W h => by
    have := Reads.of_mesh (by omega) h.b2.cell h.b3.cell h.mesh
    rw [stI_row] at this
    exact this
  have hgood : ∀ k, k < p → (fun (pre : List Nat) j => B a j && !pre.contains j) (vis (fun (pre : List Nat) j => B a j && !pre.contains j) k) k = true → (fun (pre : List Nat) (x : Nat) => x < p ∧ B a x = true ∧ x ≠ a) (vis (fun (pre : List Nat) j => B a j && !pre.contains j) k) k := fun k hk hb => by
    simp only [Bool.and_eq_true] at hb
    exact ⟨hk, hb.1, fun e => by rw [e, hB.2] at hb; cases hb.1⟩
  refine range_alone rfl (by omega) (gf := 96) (lb := #[.pointer (some ⟨w.heap.size + 1 + 1, 0, none⟩), .pointer (some ⟨w.heap.size + 1 + 1 + 1, 0, none⟩)]) rfl trivial (enters_of Tryz.func96 (by kernel_rfl) rfl)
    (encs := fun x : Nat => #[Value.int .i64 (x : Int)]) (fun _ => rfl) (fun pre W => TW w bm (p : Int) a gone (stI B a pre) W) (TW.own hml (by omega) _) hT0
    (iter_seq 7 (by omega) (w.heap.size + 1 + 1) (w.heap.size + 1 + 1 + 1) bm p a hp (by omega) _ (fun pre j => B a j && !pre.contains j) hrow (fun pre x => x < p ∧ B a x = true ∧ x ≠ a) hgood W0)
    (fun x a' W => ∃ Bx, W0.heap.size ≤ Bx ∧ Boxed W Bx 2 (.int .i64 (x : Int)) ∧ a' = { tmps := #[.pointer (some ⟨bm, 0, none⟩), .int .i64 (a : Int), .pointer (some ⟨w.heap.size, 0, none⟩), .pointer (some ⟨w.heap.size + 1, 0, none⟩), .pointer (some ⟨Bx, 0, none⟩), undef, .pointer (some ⟨bm, 0, none⟩), .int .i64 (a : Int), .func (.func 96) #[] #[.pointer (some ⟨w.heap.size + 1 + 1, 0, none⟩), .pointer (some ⟨w.heap.size + 1 + 1 + 1, 0, none⟩)], .int .i64 (x : Int), undef, undef, undef, undef, undef, undef, undef, undef, undef, undef, undef, undef, undef, undef, undef, undef, undef], defers := [] })
    (fun x a' _ X Y row hs hg hr => by obtain ⟨Bx, h1, h2, h3⟩ := hs; exact ⟨Bx, h1, boxed_own Bx 2 (fun (_ : Unit) => Value.int .i64 (x : Int)) () X Y row h2 hg (fun r e => (hr r e).2), h3⟩)
    ?assign ?body ?done
  case assign =>
    rintro l pre x W K hi _ hK
    have hsW := hi.b3.lt
    gi_wp2
    exact hK _ _ ((KeepsOthers.alloc _ _).from _) (hi.alloc hml _) ⟨W.heap.size, by omega, Boxed.new W 2 _, rfl⟩
  case body =>
    rintro l pre x a' W hl ⟨r, hr⟩ hi ⟨hxp, hbx, hxa⟩ ⟨Bx, hBx, bX, rfl⟩
    have c0 := hi.b0.cell
    have c1 := hi.b1.cell
    have cX := bX.cell
    have hax : a ≠ x := fun e => hxa e.symm
    have hlt := (Array.getElem?_eq_some_iff.1 hr).1
    gi_wp2_with fail
    refine ⟨trivial, ?_⟩
    refine (CallsIn.inRound l (callsIn_wide.2 (part_any bm a x (p : Int) _ gone (by omega) (by omega) hax _ hi.mesh))).mono ?_
    rintro e w2 ⟨rfl, hM2, hg2⟩
    have hT2 := (hi.turn hml hM2 hg2).same (stI_part B pre hxa)
    have bX2 := bX.kept hg2 (by simp; omega)
    have hk2 : KeepsFrom W0.heap.size W w2 := keeps_grown (by omega) hg2
    have hr2 := hk2.same l _ hl hr rfl
    have d0 := hT2.b0.cell
    have d1 := hT2.b1.cell
    have hs2 := hT2.b3.lt
    clear hM2 hg2 c0 c1 cX hi bX
    gi_wp2_with fail
    refine ⟨trivial, ?_⟩
    refine (CallsIn.inRound l (callsIn_wide.2 (neighbours_any bm (a : Int) _))).mono ?_
    rintro e w' ⟨rfl, rfl⟩
    have e2 := (Boxed.new w2 116 (.pointer (some ⟨bm, 0, none⟩))).alloc (.cells #[.int .i64 (a : Int)] 2)
    have e3 := Boxed.new (w2.alloc (.cells #[.pointer (some ⟨bm, 0, none⟩)] 116)) 2 (.int .i64 (a : Int))
    simp only [World.size_alloc] at e3
    have hT3 := (hT2.alloc hml (.cells #[.pointer (some ⟨bm, 0, none⟩)] 116)).alloc hml (.cells #[.int .i64 (a : Int)] 2)
    have bX3 := (bX2.alloc (.cells #[.pointer (some ⟨bm, 0, none⟩)] 116)).alloc (.cells #[.int .i64 (a : Int)] 2)
    have hk3 := hk2.trans ((((KeepsOthers.alloc w2 (.cells #[.pointer (some ⟨bm, 0, none⟩)] 116)).trans (KeepsOthers.alloc _ (.cells #[.int .i64 (a : Int)] 2))).from W0.heap.size))
    have hr3 := hk3.same l _ hl hr rfl
    have hs3 : ((w2.alloc (.cells #[.pointer (some ⟨bm, 0, none⟩)] 116)).alloc (.cells #[.int .i64 (a : Int)] 2)).heap.size = w2.heap.size + 2 := by simp
    generalize (w2.alloc (.cells #[.pointer (some ⟨bm, 0, none⟩)] 116)).alloc (.cells #[.int .i64 (a : Int)] 2) = W3 at e2 e3 hT3 bX3 hk3 hr3 hs3 ⊢
    clear hT2 bX2 hk2 hr2 d0 d1
    have hrow2 : ∀ (pre' : List Nat) (W' : World), ((TW w bm (p : Int) a gone (stJ B a pre x pre') W' ∧ Boxed W' Bx 2 (.int .i64 (x : Int))) ∧ (Boxed W' w2.heap.size 116 (.pointer (some ⟨bm, 0, none⟩)) ∧ Boxed W' (w2.heap.size + 1) 2 (.int .i64 (a : Int)))) ∧ KeepsFrom W0.heap.size W W' → Reads w2.heap.size (w2.heap.size + 1) bm p a W' ((fun (_ : List Nat) j => B a j && !(pre ++ [x]).contains j) pre') := fun pre' W' h => by
      have := Reads.of_mesh (by omega) h.1.2.1.cell h.1.2.2.cell h.1.1.1.mesh
      rw [stJ_row] at this
      exact this
    have hgood2 : ∀ k, k < p → (fun (_ : List Nat) j => B a j && !(pre ++ [x]).contains j) (vis (fun (_ : List Nat) j => B a j && !(pre ++ [x]).contains j) k) k = true → (fun (_ : List Nat) (y : Nat) => y < p ∧ y ≠ a ∧ x ≠ y) (vis (fun (_ : List Nat) j => B a j && !(pre ++ [x]).contains j) k) k := fun k hk hb => by
      simp only [Bool.and_eq_true, contains_snoc] at hb
      show k < p ∧ k ≠ a ∧ x ≠ k
      refine ⟨hk, fun e => (by rw [e, hB.2] at hb; cases hb.1), fun e => ?_⟩
      have := hb.2
      rw [e] at this
      simp at this
    gi_wp2
    refine range_within (l₀ := l) (r₀ := r) rfl hr3 (by omega) (gf := 96) (lb := #[.pointer (some ⟨w2.heap.size, 0, none⟩), .pointer (some ⟨w2.heap.size + 1, 0, none⟩)]) rfl trivial (enters_of Tryz.func96 (by kernel_rfl) rfl)
      (encs := fun x : Nat => #[Value.int .i64 (x : Int)]) (fun _ => rfl) (fun pre' W' => ((TW w bm (p : Int) a gone (stJ B a pre x pre') W' ∧ Boxed W' Bx 2 (.int .i64 (x : Int))) ∧ (Boxed W' w2.heap.size 116 (.pointer (some ⟨bm, 0, none⟩)) ∧ Boxed W' (w2.heap.size + 1) 2 (.int .i64 (a : Int)))) ∧ KeepsFrom W0.heap.size W W')
      (OwnFrom.and (OwnFrom.and (OwnFrom.and (TW.own hml (by omega) _) (Own.from (boxed_own _ _ _) _)) (OwnFrom.and (Own.from (boxed_own _ _ _) _) (Own.from (boxed_own _ _ _) _))) (ownFrom_keepsFrom hk3.size)) ⟨⟨⟨hT3, bX3⟩, e2, e3⟩, hk3⟩
      ((iter_seq (8 - 1 - 1 - 1) (by omega) w2.heap.size (w2.heap.size + 1) bm p a hp (by omega) _ (fun _ j => B a j && !(pre ++ [x]).contains j) hrow2 (fun _ y => y < p ∧ y ≠ a ∧ x ≠ y) hgood2 W3).inRound l)
      (fun y a'' _ => a'' = { tmps := #[.pointer (some ⟨bm, 0, none⟩), .int .i64 (a : Int), .pointer (some ⟨w.heap.size, 0, none⟩), .pointer (some ⟨w.heap.size + 1, 0, none⟩), .pointer (some ⟨Bx, 0, none⟩), .int .i64 (y : Int), .pointer (some ⟨bm, 0, none⟩), .int .i64 (a : Int), .func (.func 96) #[] #[.pointer (some ⟨w.heap.size + 1 + 1, 0, none⟩), .pointer (some ⟨w.heap.size + 1 + 1 + 1, 0, none⟩)], .int .i64 (x : Int), .pointer (some ⟨bm, 0, none⟩), .int .i64 (a : Int), .int .i64 (x : Int), .tuple #[], .pointer (some ⟨bm, 0, none⟩), .int .i64 (a : Int), .func (.func 96) #[] #[.pointer (some ⟨w2.heap.size, 0, none⟩), .pointer (some ⟨w2.heap.size + 1, 0, none⟩)], .int .i64 (y : Int), undef, undef, undef, undef, undef, undef, undef, undef, undef], defers := [] })
      (fun _ _ _ _ _ _ hs _ _ => hs)
      ?assign2 ?body2 ?done2
    case assign2 =>
      rintro l2 pre' y W' K hi' _ hK
      gi_wp2
      exact hK _ _ (KeepsFrom.refl _ _) hi' rfl
    case body2 =>
      rintro l2 pre' y a'' W' _ _ ⟨⟨⟨hT', bX'⟩, f2, f3⟩, hk'⟩ ⟨hyp, hya, hxy⟩ rfl
      have d0 := hT'.b0.cell
      have d1 := bX'.cell
      have hsl := bX'.lt
      gi_wp2_with (refine ⟨trivial, ?_⟩; gi_at_call 95; refine (CallsIn.inRound l2 (callsIn_wide.2 (join_any bm x y (p : Int) _ gone (by omega) (by omega) hxy _ hT'.mesh))).mono ?_; rintro e w5 ⟨rfl, hM5, hg5⟩)
      exact ⟨rfl, keeps_grown (by omega) hg5, ⟨⟨(hT'.turn hml hM5 hg5).same (stJ_join B pre pre' hxa hya), bX'.kept hg5 (by simp; omega)⟩, f2.kept hg5 (by simp; omega), f3.kept hg5 (by simp; omega)⟩, hk'.trans (keeps_grown (by omega) hg5)⟩
    case done2 =>
      rintro ys W' rfl ⟨⟨⟨hT', bX'⟩, f2, f3⟩, hk'⟩
      gi_wp2
      exact ⟨rfl, hk', hT'.same (stJ_end hW hbx)⟩
  case done =>
    rintro D xs W hD rfl hi hK
    rw [vis_struck] at hi
    replace hi := hi.same (stI_end hW)
    have c0 := hi.b0.cell
    have c1 := hi.b1.cell
    have c2 := hi.mesh.gone (show a < 24 by omega)
    have z2 := VHas.frozen hi.mesh (577 + a)
    have ha' : (a : Int) < 24 := by omega
    gi_wp2
    refine wpIn_wide.2 ?_
    go_big_region
    have hM2 := hi.mesh.go (show a < 24 by omega)
    have hg2 : w.grownBy ((W.setCell ⟨bm, 577 + a, none⟩ (.bool true)).drew) (some bm) := (hi.gr.trans (gr_setCell W bm (577 + a) (.bool true))).trans ⟨rfl, rfl, rfl, Nat.le_refl _, fun _ _ _ => rfl⟩
    have hK2 : ((W.setCell ⟨bm, 577 + a, none⟩ (.bool true)).drew).heap[D]? = some (.deferred (some [])) := (KeepsOthers.setCell W _ _).same D _ hK rfl
    have hM3 : MeshAt ((W.setCell ⟨bm, 577 + a, none⟩ (.bool true)).drew) bm (p : Int) (tk B a) (goneU gone a) := VHas.of_block hM2 rfl
    refine ⟨by simp, .inl ⟨_, _, rfl, run_takeDeferred hK2, ?_⟩⟩
    refine ⟨_, results_none rfl _ _ _, rfl, VHas.of_block hM3 (World.putObj_heap_other (by omega)), ?_⟩
    refine ⟨hg2.os, hg2.tape, hg2.output, by simpa using hg2.size, fun k hk hne => ?_⟩
    rw [World.putObj_heap_other (by omega)]
    exact hg2.block k hk hne
set_option maxRecDepth 100000 in
set_option maxHeartbeats 2000000 in
theorem countTo_any (bm p place limit : Nat) (B : Nat → Nat → Bool) (gone : Nat → Bool) (hp : p ≤ 24) (hpl : place < 24) (hl : limit ≤ 24) (w : World) (hM : MeshAt w bm (p : Int) B gone) :
    Calls Tryz.prog 101 #[.pointer (some ⟨bm, 0, none⟩), .int .i64 (place : Int), .int .i64 (limit : Int)] w fun e w' => e = .returned (.int .i64 (min (cntB (B place) p) limit : Nat)) ∧ Below w.heap.size w w' := by
  refine (callsIn_wide (n := 6)).1 ?_
  refine callsIn_of_wp_marks Tryz.func101 rfl trivial ?_ rfl
  simp only [Tryz.ntmps101, List.size_toArray, List.length_cons, List.length_nil, Nat.reduceAdd, Nat.reduceSub, Array.replicate_succ, Array.replicate_zero, List.push_toArray, List.append_toArray, List.nil_append, List.cons_append]
  gi_wp2
  refine wpIn_wide.2 (wp_scope_straight ((wpIn_wide (n := 6)).1 ?_))
  gi_wp2
  refine wpIn_label ?_
  gi_wp2_with (refine ⟨trivial, ?_⟩; gi_at_call 80; refine (callsIn_wide.2 (neighbours_any bm (place : Int) _)).mono ?_; rintro e w' ⟨rfl, rfl⟩)
  have hml := VHas.lt hM
  have bL := (((Boxed.new w 2 (.int .i64 (limit : Int))).alloc (.cells #[.int .i64 0] 2)).alloc (.cells #[.pointer (some ⟨bm, 0, none⟩)] 116)).alloc (.cells #[.int .i64 (place : Int)] 2)
  have bC := ((Boxed.new (w.alloc (.cells #[.int .i64 (limit : Int)] 2)) 2 (.int .i64 0)).alloc (.cells #[.pointer (some ⟨bm, 0, none⟩)] 116)).alloc (.cells #[.int .i64 (place : Int)] 2)
  have bA := (Boxed.new ((w.alloc (.cells #[.int .i64 (limit : Int)] 2)).alloc (.cells #[.int .i64 0] 2)) 116 (.pointer (some ⟨bm, 0, none⟩))).alloc (.cells #[.int .i64 (place : Int)] 2)
  have bP := Boxed.new (((w.alloc (.cells #[.int .i64 (limit : Int)] 2)).alloc (.cells #[.int .i64 0] 2)).alloc (.cells #[.pointer (some ⟨bm, 0, none⟩)] 116)) 2 (.int .i64 (place : Int))
  simp only [World.size_alloc] at bC bA bP
  have hB0 : Below w.heap.size w ((((w.alloc (.cells #[.int .i64 (limit : Int)] 2)).alloc (.cells #[.int .i64 0] 2)).alloc (.cells #[.pointer (some ⟨bm, 0, none⟩)] 116)).alloc (.cells #[.int .i64 (place : Int)] 2)) := ((((Below.refl _ w).alloc nl _).alloc (by simp) _).alloc (by simp; omega) _).alloc (by simp; omega) _
  have hM0 := VHas.below hM hB0 hml
  have hsz : ((((w.alloc (.cells #[.int .i64 (limit : Int)] 2)).alloc (.cells #[.int .i64 0] 2)).alloc (.cells #[.pointer (some ⟨bm, 0, none⟩)] 116)).alloc (.cells #[.int .i64 (place : Int)] 2)).heap.size = w.heap.size + 4 := by simp
  generalize ((((w.alloc (.cells #[.int .i64 (limit : Int)] 2)).alloc (.cells #[.int .i64 0] 2)).alloc (.cells #[.pointer (some ⟨bm, 0, none⟩)] 116)).alloc (.cells #[.int .i64 (place : Int)] 2)) = W0 at bL bC bA bP hB0 hM0 hsz ⊢
  have hR0 : Reads (w.heap.size + 1 + 1) (w.heap.size + 1 + 1 + 1) bm p place W0 (B place) := Reads.of_mesh hpl bA.cell bP.cell hM0
  gi_wp2
  refine wpIn_rangeFunc_ownG rfl (by omega) (gf := 96) (lb := #[.pointer (some ⟨w.heap.size + 1 + 1, 0, none⟩), .pointer (some ⟨w.heap.size + 1 + 1 + 1, 0, none⟩)]) rfl trivial (enters_of Tryz.func96 (by kernel_rfl) rfl)
    (iter_stops 5 (by omega) (w.heap.size + 1 + 1) (w.heap.size + 1 + 1 + 1) bm p place (B place) hp hpl W0 hR0) (fun h k r => k (h r)) (fun W l o o' hl ho hc hw hR => hR.grown (grownBy_putObj' W l o') (fun r e => by cases e; exact ⟨o, ho, hc⟩)) (Below.refl _ _) (fun _ => rfl)
    (fun pre W => ((Boxed W (w.heap.size + 1) 2 (.int .i64 (pre.length : Int)) ∧ Boxed W w.heap.size 2 (.int .i64 (limit : Int))) ∧ pre.length ≤ limit) ∧ Below w.heap.size w W)
    (fun c pre W => ((c = .exit 0 ∧ pre.length = limit + 1) ∧ Boxed W (w.heap.size + 1) 2 (.int .i64 (limit : Int))) ∧ Below w.heap.size w W)
    (OwnFrom.and (OwnFrom.and (OwnFrom.and (Own.from (boxed_own _ _ (fun pre : List Nat => Value.int .i64 (pre.length : Int))) _) (Own.from (boxed_own _ _ _) _)) (ownFrom_pure _ (fun pre : List Nat => pre.length ≤ limit))) (ownFrom_below nl (by omega)))
    (fun c => OwnFrom.and (OwnFrom.and (ownFrom_pure _ (fun pre : List Nat => c = .exit 0 ∧ pre.length = limit + 1)) (Own.from (boxed_own _ _ _) _)) (ownFrom_below nl (by omega)))
    ⟨⟨⟨bC, bL⟩, by simp⟩, hB0⟩
    (fun x => { tmps := #[.pointer (some ⟨bm, 0, none⟩), .int .i64 (place : Int), .int .i64 (limit : Int), undef, undef, .pointer (some ⟨w.heap.size, 0, none⟩), .int .i64 0, .pointer (some ⟨w.heap.size + 1, 0, none⟩), .pointer (some ⟨bm, 0, none⟩), .int .i64 (place : Int), .func (.func 96) #[] #[.pointer (some ⟨w.heap.size + 1 + 1, 0, none⟩), .pointer (some ⟨w.heap.size + 1 + 1 + 1, 0, none⟩)], .int .i64 (x : Int), undef, undef, undef, undef, undef, undef], defers := [] }) ?assign ?body ?done ?stop
  case assign =>
    intro l x W K hK
    refine wpIn_skip ?_
    simpa [Exit.then] using hK
  case body =>
    rintro l pre x W ⟨⟨⟨bC1, bL1⟩, hle⟩, hB1⟩ _
    have cC := bC1.cell
    have fC := bC1.frozen
    have cL := bL1.cell
    have hK1 : KeepsFrom W0.heap.size W (W.setCell ⟨w.heap.size + 1, 0, none⟩ (.int .i64 ((pre.length : Int) + 1))) := (KeepsOthers.setCell _ _ _).from _
    by_cases hq : pre.length = limit
    · have hq' : ((pre.length : Int) == (limit : Int)) = true := by simp [hq]
      have hqi : (pre.length : Int) = (limit : Int) := by omega
      rw [hqi] at cC bC1
      gi_wp2
      exact ⟨KeepsFrom.refl _ _, ⟨⟨rfl, by simp [hq]⟩, bC1⟩, hB1⟩
    · have hq' : ¬ (pre.length : Int) = (limit : Int) := by omega
      gi_wp2
      refine ⟨hK1, fun r => ?_, ⟨⟨?_, bL1.other (by omega) _⟩, by simp; omega⟩, hB1.setCell (p := ⟨w.heap.size + 1, 0, none⟩) (by simp) _⟩
      · have hg := gr_setCell W (w.heap.size + 1) 0 (.int .i64 ((pre.length : Int) + 1))
        exact ⟨hg.cell r.rdM (by simp), hg.cell r.rdP (by simp; omega), hg.cell r.rdN (by simp; omega), fun j hj => hg.cell (r.rdR j hj) (by simp; omega)⟩
      · have := bC1.set (.int .i64 ((pre.length : Int) + 1))
        simpa using this
  case done =>
    rintro D ys W hD rfl ⟨⟨⟨bC1, bL1⟩, hle⟩, hB1⟩ hK
    have cC := bC1.cell
    gi_wp2
    refine ⟨by simp, .inl ⟨_, _, rfl, run_takeDeferred hK, ?_⟩⟩
    refine ⟨_, results_tmp rfl _ _ _, ?_, hB1.trans (belowK_b (w := w) nl W D _ _ (by omega) hK rfl rfl)⟩
    rw [visF_len] at hle ⊢
    rw [Nat.min_eq_left hle]
    rfl
  case stop =>
    rintro D c pre W hD hSp ⟨⟨⟨rfl, hlen⟩, bC1⟩, hB1⟩ hK
    have cC := bC1.cell
    have hmin : min (cntB (B place) p) limit = limit := by
      obtain ⟨k, hk, hb, rfl⟩ := hSp
      rw [List.length_append, visF_len] at hlen
      simp at hlen
      have := cntB_mono (B place) (show k + 1 ≤ p by omega)
      rw [cntB_succ hb] at this
      omega
    gi_wp2
    refine ⟨by simp, .inl ⟨_, _, rfl, run_takeDeferred hK, ?_⟩⟩
    exact ⟨_, results_tmp rfl _ _ _, by rw [hmin]; rfl, hB1.trans (belowK_b (w := w) nl W D _ _ (by omega) hK rfl rfl)⟩
end
section
open Go.RowKit
attribute [local go_sem ↓] Go.wp_at_zero Go.wp_at_succ
set_option maxHeartbeats 2000000 in
theorem next_any (bm p : Nat) (B : Nat → Nat → Bool) (gone : Nat → Bool) (hp : p ≤ 24) (w : World) (hM : MeshAt w bm (p : Int) B gone) :
    Calls Tryz.prog 94 #[.pointer (some ⟨bm, 0, none⟩)] w fun e w' => e = .returned (.int .i64 ((pick p B gone p).1 : Int)) ∧ Below w.heap.size w w' := by
  have hml := VHas.lt hM
  have c0 := hM.places
  go_enter Tryz.func94, Tryz.ntmps94
  go_wp2
  go_quiet (fail)
  have hMq : MeshAt (w.drewN nq) bm (p : Int) B gone := VHas.of_block hM rfl
  have hbq : Below w.heap.size w (w.drewN nq) := below_drewN (Below.refl _ _) nq
  generalize w.drewN nq = wq at hMq hbq ⊢
  have d0 := hMq.places
  clear c0
  go_wp2
  clear d0
  go_loopw [3, 4, 15] (fun x y i wr => ∃ j : Nat, j ≤ p ∧ x = .int .i64 ((pick p B gone j).1 : Int) ∧ y = .int .i64 ((pick p B gone j).2 : Int) ∧ i = .int .i64 j ∧ MeshAt wr bm (p : Int) B gone ∧ Below w.heap.size w wr) (fun _ _ i _ => p - (intOf i).toNat)
  case atStart => exact ⟨0, Nat.zero_le _, rfl, rfl, rfl, hMq, hbq⟩
  case round =>
    clear hMq hbq
    obtain ⟨j, hj, rfl, rfl, rfl, hMj, hbel⟩ := hrel
    have hple := pick_le (p := p) (B := B) (gone := gone) j
    by_cases hlt : j < p
    rotate_left
    · have hjp : j = p := by omega
      subst hjp
      go_wp2
      go_ret
      exact ⟨rfl, hbel⟩
    have hlt' : (j : Int) < (p : Int) := by omega
    have h24 : (j : Int) < 24 := by omega
    have c1 := hMj.gone (show j < 24 by omega)
    cases hg : gone j
    · rw [hg] at c1
      have hct := countTo_any bm p j (pick p B gone j).2 B gone hp (by omega) (by omega) wr hMj
      by_cases hc : cntB (B j) p < (pick p B gone j).2
      · have hpk : Hid (pick p B gone (j + 1) = (j, cntB (B j) p)) := by
          show (if gone j then _ else if cntB (B j) p < (pick p B gone j).2 then (j, cntB (B j) p) else _) = _
          rw [if_neg (by rw [hg]; simp), if_pos hc]
        rw [Nat.min_eq_left (Nat.le_of_lt hc)] at hct
        have hc' : (cntB (B j) p : Int) < ((pick p B gone j).2 : Int) := by omega
        go_wp2_with (go_at_call 101; refine hct.mono ?_; rintro e w2 ⟨rfl, hb2⟩)
        go_roundw
        case rel => exact ⟨j + 1, by omega, by rw [hpk.out], by rw [hpk.out], by go_num, VHas.next hMj hb2, below_next hbel nl hb2⟩
        case measure => simp [intOf]; omega
      · have hpk : Hid (pick p B gone (j + 1) = pick p B gone j) := by
          show (if gone j then _ else if cntB (B j) p < (pick p B gone j).2 then (j, cntB (B j) p) else pick p B gone j) = _
          rw [if_neg (by rw [hg]; simp), if_neg hc]
        rw [Nat.min_eq_right (Nat.le_of_not_lt hc)] at hct
        go_wp2_with (go_at_call 101; refine hct.mono ?_; rintro e w2 ⟨rfl, hb2⟩)
        go_roundw
        case rel => exact ⟨j + 1, by omega, by rw [hpk.out], by rw [hpk.out], by go_num, VHas.next hMj hb2, below_next hbel nl hb2⟩
        case measure => simp [intOf]; omega
    · rw [hg] at c1
      have hpk : Hid (pick p B gone (j + 1) = pick p B gone j) := by
        show (if gone j then pick p B gone j else _) = _
        rw [if_pos hg]
      go_wp2
      go_roundw
      case rel => exact ⟨j + 1, by omega, by rw [hpk.out], by rw [hpk.out], by go_num, hMj, hbel⟩
      case measure => simp [intOf]; omega
set_option maxHeartbeats 2000000 in
theorem implOrder_any (p : Int) (ao : Option Addr) (n cap : Nat) (F T G : Nat → Int) (hn : n ≤ 1048576) (w : World) (hr : Row w ao n F T G) :
    Calls Tryz.prog 74 #[.agg #[.int .i64 p, .slice ao n cap]] w fun e w' => Ans w w' e (lenO p n F T G) (listO p n F T) := by
  rcases Bool.eq_false_or_eq_true (graphB p n F T G) with h | h
  rotate_left
  · have hL : lenO p n F T G = 0 := by simp [lenO, h]
    rw [hL]
    go_enter Tryz.func74, Tryz.ntmps74
    go_wp2_with (go_at_call 41; refine (implGraphOk_any p ao n cap F T G hn _ (hr.alloc _)).mono ?_; rintro e w1 ⟨rfl, hb1⟩)
    go_ret
    exact ⟨_, _, rfl, fun h => by omega, unbox (hb1.alloc (by have := hb1.size; omega) _) (by simp)⟩
  have hpp : 1 ≤ p ∧ p ≤ 24 := by simpa [inB] using graphB_p h
  obtain ⟨pn, rfl⟩ : ∃ pn : Nat, p = (pn : Int) := ⟨p.toNat, by omega⟩
  have hL : lenO pn n F T G = pn := by simp [lenO, h]
  rw [hL]
  obtain ⟨⟨hp1, hp2⟩, hn1, hF, hT, hFT⟩ := ok_arcs h
  have hfair : Fair (nbA F T n) := fair_nbA n (fun k hk => by have := hF k hk; have := hT k hk; have := hFT k hk; omega)
  have hwi : Within pn (nbA F T n) := within_nbA n (fun k hk => by have := hF k hk; have := hT k hk; omega)
  have hmo := fun W hr' => meshOf_any pn ao n cap F T G hp2 hn1 hF hT hFT W hr'
  have hli : listO pn n F T = (run3 pn (nbA F T n) pn).2.2 := by simp [listO]
  rw [hli]
  generalize nbA F T n = B at hfair hwi hmo ⊢
  have HF : Hid (Fair B ∧ Within pn B) := ⟨hfair, hwi⟩
  have HMO : Hid (∀ W, Row W ao n F T G → Calls Tryz.prog 79 #[.agg #[.int .i64 (pn : Int), .slice ao n cap]] W fun e w' => ∃ bm, e = .returned (.pointer (some ⟨bm, 0, none⟩)) ∧ W.heap.size ≤ bm ∧ MeshAt w' bm (pn : Int) B (fun _ => false) ∧ Below W.heap.size W w') := hmo
  clear hL hF hT hFT hpp hfair hwi hmo hli
  go_enter Tryz.func74, Tryz.ntmps74
  go_wp2_with fail
  refine (implGraphOk_any pn ao n cap F T G hn _ (hr.alloc _)).mono ?_
  rintro e w1 ⟨rfl, hb1⟩
  have hA1 := boxed hb1
  obtain ⟨x0, x1, xs⟩ := box2 hA1
  rw [h]
  go_wp2_with fail
  refine (HMO.out _ ((hr.alloc _).below hA1 (by simp))).mono ?_
  rintro e w2 ⟨bm, rfl, hbm, hM2, hb2⟩
  have hA2 := below_next hA1 (by simp) hb2
  clear x0 x1 hA1 hb1
  obtain ⟨x0, x1, xs2⟩ := box2 hA2
  have hml := VHas.lt hM2
  have hmk := make_ints pn (by omega)
  have hA3 := hA2.alloc (o := .cells (madeCells #[.int .i64 0] pn) 2) (by omega)
  have hM3 := hM2.alloc (.cells (madeCells #[.int .i64 0] pn) 2)
  have hI3 := made_ints w2 pn
  clear hb2 hM2
  go_wp2_with fail
  clear hmk x0 x1
  go_loopw [17] (fun i wr => ∃ k : Nat, k ≤ pn ∧ i = .int .i64 k ∧ MeshAt wr bm (pn : Int) (run3 pn B k).1 (run3 pn B k).2.1 ∧ IHas wr w2.heap.size pn (run3 pn B k).2.2 ∧ Below (w.heap.size + 1) (w.alloc (.cells #[.int .i64 (pn : Int), .slice ao n cap] 26)) wr) (fun i _ => pn - (intOf i).toNat)
  case atStart => exact ⟨0, Nat.zero_le _, rfl, hM3, hI3, hA3⟩
  case round =>
    clear hM3 hI3 hA3 hA2
    obtain ⟨k, hk, rfl, hM, hI, hA⟩ := hrel
    by_cases hlt : k < pn
    rotate_left
    · have hkp : k = pn := by omega
      subst hkp
      go_wp2
      go_ret
      exact ⟨_, _, rfl, fun _ => ⟨_, rfl, by omega, hI⟩, unbox hA (by omega)⟩
    have hlt' : (k : Int) < (pn : Int) := by omega
    have hpl := run3_place HF.out.1 hlt
    have hfk := run3_fair (p := pn) HF.out.1 k
    have hwk := within_run3 HF.out.2 k
    have e1 := run3_sq pn B k
    have e2 := run3_gn pn B k
    have e3 := run3_ls pn B k
    have hnx := next_any bm pn _ _ hp2 wr hM
    have E1 : Hid ((run3 pn B (k + 1)).1 = tk (run3 pn B k).1 (pick pn (run3 pn B k).1 (run3 pn B k).2.1 pn).1 ∧ (run3 pn B (k + 1)).2.1 = goneU (run3 pn B k).2.1 (pick pn (run3 pn B k).1 (run3 pn B k).2.1 pn).1 ∧ (run3 pn B (k + 1)).2.2 = fun j => if j = k then ((pick pn (run3 pn B k).1 (run3 pn B k).2.1 pn).1 : Int) else (run3 pn B k).2.2 j) := ⟨e1, e2, e3⟩
    clear e1 e2 e3
    generalize (pick pn (run3 pn B k).1 (run3 pn B k).2.1 pn).1 = a at hpl hnx E1
    go_wp2_with fail
    refine hnx.mono ?_
    rintro e w3 ⟨rfl, hb3⟩
    have hM3 := VHas.next hM hb3
    have hI3 := hI.below hb3 hI.lt
    have hA3 := below_next hA (by simp) hb3
    clear hM hI hA hb3 hnx
    have d0 := hI3.cell hlt
    have z0 := hI3.frozen k
    have hne : bm ≠ w2.heap.size := by omega
    have hM4 := VHas.other (i := k) hM3 hne (.int .i64 (a : Int))
    have hI4 := hI3.set k (a : Int)
    have hA4 := hA3.setCell (p := ⟨w2.heap.size, k, none⟩) (by simp; omega) (.int .i64 (a : Int))
    clear hM3 hI3 hA3
    go_wp2_with fail
    refine (takeAway_any bm pn a _ _ hp2 hpl hfk hwk _ hM4).mono ?_
    rintro e w5 ⟨rfl, hM5, hg5⟩
    have hI5 := hI4.grown hg5 (by simp; omega)
    have hA5 := hA4.trans (gr_below hg5 (by omega) (by have := hA4.size; simpa using this))
    clear hM4 hI4 hA4 hg5 d0 z0
    go_wp2
    go_roundw
    case rel => exact ⟨k + 1, by omega, by go_num, by rw [E1.out.1, E1.out.2.1]; exact hM5, by rw [E1.out.2.2]; exact hI5, hA5⟩
    case measure => simp [intOf]; omega
set_option maxHeartbeats 1000000 in
theorem implRanks_any (ao : Option Addr) (n cap : Nat) (P : Nat → Int) (hn : n ≤ 1048576) (w : World) (hr : IRow w ao n P) :
    Calls Tryz.prog 78 #[.slice ao n cap] w fun e w' => Ans w w' e (lenR n P) (rk P (-1) n) := by
  by_cases h2 : 24 < n
  · have h2' : 24 < (n : Int) := by omega
    have hL : lenR n P = 0 := by
      have : ¬ n ≤ 24 := by omega
      simp [lenR, okR, this]
    rw [hL]
    go_enter Tryz.func78, Tryz.ntmps78
    go_wp2
    go_ret
    exact ⟨_, _, rfl, fun h => by omega, (Below.refl _ _).alloc nl _⟩
  have h2' : ¬ 24 < (n : Int) := by omega
  have hmk := make_ints n hn
  go_enter Tryz.func78, Tryz.ntmps78
  go_wp2
  clear hmk
  go_loopw [16] (fun i wr => ∃ k : Nat, k ≤ n ∧ i = .int .i64 k ∧ IHas wr w.heap.size n (fun j => if j < k then -1 else 0) ∧ Below w.heap.size w wr) (fun i _ => n - (intOf i).toNat)
  case atStart => exact ⟨0, Nat.zero_le _, rfl, (made_ints w n).congr (fun j _ => by simp), (Below.refl _ _).alloc nl _⟩
  case round =>
    obtain ⟨k, hk, rfl, hown, hbel⟩ := hrel
    by_cases hlt : k < n
    · have d0 := hown.cell hlt
      have z0 := hown.frozen k
      have R := hown.set k (-1)
      have S := hbel.setCell (p := ⟨w.heap.size, k, none⟩) nl (.int .i64 (-1))
      clear hown
      go_wp2
      go_roundw
      case rel =>
        refine ⟨k + 1, by omega, by go_num, R.congr (fun j hj => ?_), S⟩
        by_cases e : j = k
        · subst e; simp
        · simp only [if_neg e]
          by_cases hl : j < k
          · rw [if_pos hl, if_pos (by omega)]
          · rw [if_neg hl, if_neg (by omega)]
      case measure => simp [intOf]; omega
    have hkn : k = n := by omega
    subst hkn
    have hown0 := hown.congr (g := rk P (-1) 0) (fun j hj => by simp [rk, hj])
    clear hown
    go_wp2
    go_loopw [25] (fun i wq => ∃ m : Nat, m ≤ k ∧ i = .int .i64 m ∧ eachB k P m = true ∧ IHas wq w.heap.size k (rk P (-1) m) ∧ Below w.heap.size w wq) (fun i _ => k - (intOf i).toNat)
    case atStart => exact ⟨0, Nat.zero_le _, rfl, rfl, hown0, hbel⟩
    case round =>
      clear hown0 hbel
      obtain ⟨m, hm, rfl, hea, hown, hbel⟩ := hrel
      have HE : Hid (eachB k P m = true) := hea
      clear hea
      by_cases hlt : m < k
      rotate_left
      · have hmk : m = k := by omega
        subst hmk
        have HL : Hid (lenR m P = m) := by
          show lenR m P = m
          by_cases h0 : m = 0
          · subst h0; simp [lenR]
          · have h1 : 1 ≤ m := by omega
            have h24 : m ≤ 24 := by omega
            simp [lenR, okR, HE.out, h1, h24]
        go_wp2
        go_ret
        exact ans_of HL.out ⟨_, _, rfl, fun _ => ⟨_, rfl, Nat.le_refl _, hown⟩, hbel⟩
      obtain ⟨b, o, hao, c0⟩ := (hr.below hbel nl) m hlt
      subst hao
      have hm0 : (0 : Int) ≤ (m : Int) := by omega
      have hmk : (m : Int) < (k : Int) := by omega
      rcases Bool.eq_false_or_eq_true (inB (P m) 0 ((k : Int) - 1)) with hi | hi
      rotate_left
      · have HL : Hid (lenR k P = 0) := by
          show lenR k P = 0
          have : eachB k P k = false := eachB_no (k := m) (by simp [eachB, hi]) hlt
          simp [lenR, okR, this]
        go_wp2_with (go_at_call 38; refine (placeOk_any _ _ _).mono ?_; rintro e w1 ⟨rfl, rfl⟩)
        go_ret
        exact ans_of HL.out ⟨_, _, rfl, fun h => by omega, hbel.alloc hbel.size _⟩
      have hq0 : 0 ≤ P m ∧ P m ≤ (k : Int) - 1 := by simpa [inB] using hi
      obtain ⟨q, hq⟩ : ∃ q : Nat, P m = (q : Int) := ⟨(P m).toNat, by omega⟩
      have hS : Hid (∀ j, rk P (-1) (m + 1) j = if j = q then (m : Int) else rk P (-1) m j) := rk_at hq
      have hE : Hid (eachB k P (m + 1) = !sn P m q) := eachB_at HE.out hq hi
      rw [hq] at c0 hi hq0
      clear hq
      have hqn : q < k := by omega
      have d0 := hown.cell hqn
      have z0 := hown.frozen q
      have R := hown.set q (m : Int)
      have S := hbel.setCell (p := ⟨w.heap.size, q, none⟩) nl (.int .i64 (m : Int))
      have hqn' : (q : Int) < (k : Int) := by omega
      have hrs := rk_sn P m q
      rcases Bool.eq_false_or_eq_true (sn P m q) with hs | hs
      · have hge : 0 ≤ rk P (-1) m q := hrs.1 hs
        clear hrs
        have HL : Hid (lenR k P = 0) := by
          show lenR k P = 0
          have : eachB k P k = false := eachB_no (k := m) (by rw [hE.out, hs]; rfl) hlt
          simp [lenR, okR, this]
        go_wp2_with (go_at_call 38; refine (placeOk_any _ _ _).mono ?_; rintro e w1 ⟨rfl, rfl⟩)
        go_ret
        exact ans_of HL.out ⟨_, _, rfl, fun h => by omega, hbel.alloc hbel.size _⟩
      · have hge : ¬ 0 ≤ rk P (-1) m q := fun h => by rw [hrs.2 h] at hs; cases hs
        clear hrs hown
        go_wp2_with (go_at_call 38; refine (placeOk_any _ _ _).mono ?_; rintro e w1 ⟨rfl, rfl⟩)
        go_roundw
        case rel => exact ⟨m + 1, by omega, by go_num, by rw [hE.out, hs]; rfl, R.congr (fun j _ => (hS.out j).symm), S⟩
        case measure => simp [intOf]; omega
set_option maxHeartbeats 1000000 in
theorem implOrderOk_any (p : Int) (ao : Option Addr) (n cap : Nat) (F T G : Nat → Int) (po : Option Addr) (m pcap : Nat) (P : Nat → Int) (hn : n ≤ 1048576) (hm : m ≤ 1048576) (w : World) (hr : Row w ao n F T G) (hp : IRow w po m P) :
    Calls Tryz.prog 58 #[.agg #[.int .i64 p, .slice ao n cap], .slice po m pcap] w fun e w' => e = .returned (.bool (ordB p n F T G m P)) ∧ Below w.heap.size w w' := by
  rcases Bool.eq_false_or_eq_true (graphB p n F T G) with h | h
  rotate_left
  · go_enter Tryz.func58, Tryz.ntmps58
    go_wp2_with (go_at_call 41; refine (implGraphOk_any p ao n cap F T G hn _ (hr.alloc _)).mono ?_; rintro e w1 ⟨rfl, hb1⟩)
    go_ret
    exact ⟨ret_bool (by simp [ordB, h]), unbox hb1 (by simp)⟩
  rcases Bool.eq_false_or_eq_true ((m : Int) == p) with h2 | h2
  rotate_left
  · go_enter Tryz.func58, Tryz.ntmps58
    go_wp2_with (go_at_call 41; refine (implGraphOk_any p ao n cap F T G hn _ (hr.alloc _)).mono ?_; rintro e w1 ⟨rfl, hb1⟩; obtain ⟨hc, hf⟩ := bcell hb1)
    go_ret
    exact ⟨ret_bool (by simp only [ordB, h, h2]; rfl), unbox hb1 (by simp)⟩
  have hL : ((lenR m P : Int) == (m : Int)) = okR m P := by
    have hp1 : 1 ≤ p ∧ p ≤ 24 := by
      simp [graphB, inB] at h
      omega
    have hmp : (m : Int) = p := by simpa using h2
    unfold lenR
    cases hk : okR m P
    · rw [Bool.eq_false_iff]; simp; omega
    · simp
  have HL : Hid (((lenR m P : Int) == (m : Int)) = okR m P) := hL
  clear hL
  go_enter Tryz.func58, Tryz.ntmps58
  go_wp2_with (first | (go_at_call 41; refine (implGraphOk_any p ao n cap F T G hn _ (hr.alloc _)).mono ?_; rintro e w1 ⟨rfl, hb1⟩; obtain ⟨hc, hf⟩ := bcell hb1) | (go_at_call 78; refine (implRanks_any po m pcap P hm _ ((hp.alloc _).below hb1 nl)).mono ?_; rintro e w2 ⟨aoR, capR, rfl, _, hb2⟩))
  go_ret
  exact ⟨ret_bool (by rw [HL.out]; simp only [ordB, h, h2]; rfl), unbox (below_next hb1 nl hb2) (by simp)⟩
def cmpI (x y : Int) : Int := if x < y then -1 else if y < x then 1 else 0
def orI (x y : Int) : Int := if x = 0 then y else x
def cmpE (l h l' h' : Int) : Int := orI (cmpI l l') (cmpI h h')
theorem cmpE_up (l h l' h' : Int) : cmpE l h l' h' < 0 ↔ upB l h l' h' = true := by
  unfold cmpE orI cmpI upB
  by_cases h1 : l < l'
  · simp [h1]
  by_cases h2 : l' < l
  · have : l ≠ l' := by omega
    simp [h1, h2, this]
  have : l = l' := by omega
  subst this
  by_cases h3 : h < h'
  · simp [h3]
  by_cases h4 : h' < h <;> simp [h3, h4]
theorem isNaN_any (x : Int) (w : World) : Calls Tryz.prog 102 #[.int .i64 x] w fun e w' => e = .returned (.bool false) ∧ w' = w := by
  go_enter Tryz.func102, Tryz.ntmps102
  go_wp2
  go_ret
  exact ⟨by simp, rfl⟩
theorem compare_any (x y : Int) (w : World) : Calls Tryz.prog 99 #[.int .i64 x, .int .i64 y] w fun e w' => e = .returned (.int .i64 (cmpI x y)) ∧ w' = w := by
  unfold cmpI
  by_cases h1 : x < y
  · go_enter Tryz.func99, Tryz.ntmps99
    go_wp2_with (go_at_call 102; refine (isNaN_any _ _).mono ?_; rintro e w1 ⟨rfl, rfl⟩)
    go_ret
    exact ⟨by simp [h1], rfl⟩
  by_cases h2 : y < x <;>
  · go_enter Tryz.func99, Tryz.ntmps99
    go_wp2_with (go_at_call 102; refine (isNaN_any _ _).mono ?_; rintro e w1 ⟨rfl, rfl⟩)
    go_ret
    exact ⟨by simp [h1, h2], rfl⟩
theorem or_two (b o c : Nat) (x y : Int) (w : World) (h0 : w.cell? ⟨b, o, none⟩ = some (.int .i64 x)) (h1 : w.cell? ⟨b, o + 1, none⟩ = some (.int .i64 y)) :
    Calls Tryz.prog 98 #[.slice (some ⟨b, o, none⟩) 2 c] w fun e w' => e = .returned (.int .i64 (orI x y)) ∧ w' = w := by
  unfold orI
  go_enter Tryz.func98, Tryz.ntmps98
  go_wp2
  go_loop [8] (fun i => ∃ k : Nat, k ≤ 2 ∧ i = .int .i64 k ∧ (1 ≤ k → x = 0) ∧ (2 ≤ k → y = 0)) (fun i => 2 - (intOf i).toNat)
  case atStart => exact ⟨0, by omega, rfl, fun h => by omega, fun h => by omega⟩
  case round =>
    obtain ⟨k, hk, rfl, hx, hy⟩ := hrel
    have h3 : k = 0 ∨ k = 1 ∨ k = 2 := by omega
    rcases h3 with rfl | rfl | rfl
    · clear hx hy
      by_cases e : x = 0
      · go_wp2
        go_round
        case rel => exact ⟨1, by omega, by go_num, fun _ => e, fun h => by omega⟩
        case measure => simp [intOf]
      · go_wp2
        go_ret
        exact ⟨by simp [e], rfl⟩
    · have hx := hx (by omega)
      subst hx
      clear hy
      by_cases e : y = 0
      · go_wp2
        go_round
        case rel => exact ⟨2, by omega, by go_num, by simp, fun h => e⟩
        case measure => simp [intOf]
      · go_wp2
        go_ret
        exact ⟨by simp, rfl⟩
    · have hx := hx (by omega)
      have hy := hy (by omega)
      subst hx hy
      go_wp2
      go_ret
      exact ⟨by simp, rfl⟩
theorem compareEdges_any (l h l' h' : Int) (w : World) :
    Calls Tryz.prog 83 #[.agg #[.int .i64 l, .int .i64 h], .agg #[.int .i64 l', .int .i64 h']] w fun e w' => e = .returned (.int .i64 (cmpE l h l' h')) ∧ Below w.heap.size w w' := by
  go_enter Tryz.func83, Tryz.ntmps83
  go_wp2_with fail
  have hA : Below w.heap.size w ((w.alloc (.cells #[.int .i64 l, .int .i64 h] 94)).alloc (.cells #[.int .i64 l', .int .i64 h'] 94)) := ((Below.refl _ _).alloc nl _).alloc (by simp) _
  go_region_held3 (fun W => W.cell? ⟨w.heap.size, 0, none⟩ = some (.int .i64 l) ∧ W.cell? ⟨w.heap.size, 1, none⟩ = some (.int .i64 h) ∧ W.cell? ⟨w.heap.size + 1, 0, none⟩ = some (.int .i64 l') ∧ W.cell? ⟨w.heap.size + 1, 1, none⟩ = some (.int .i64 h'))
    (first | go_keep)
    (first | (go_at_call 99; refine (compare_any _ _ _).mono ?_; rintro e w1 ⟨rfl, rfl⟩) | (go_at_call 98; refine (or_two _ _ _ _ _ _ (by simp [go_sem]; rfl) (by simp [go_sem]; rfl)).mono ?_; rintro e w1 ⟨rfl, rfl⟩))
  go_wp2
  go_ret
  exact ⟨rfl, (hA.alloc (by simp; omega) _).drew⟩
end
end Go.Proofs.YthmpliljffmmcaaGreatDoor
