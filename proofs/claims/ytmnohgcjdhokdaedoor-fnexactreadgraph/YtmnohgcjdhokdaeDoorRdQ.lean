/-
  strings.SplitN of a map's text: at most 302 pieces between blanks.
-/
import Derived.Test.YtmnohgcjdhokdaeDoorRdL
import Derived.Test.YtmnohgcjdhokdaeDoorArcL
set_option linter.unusedVariables false
set_option linter.unusedSimpArgs false
namespace Go.Proofs.YtmnohgcjdhokdaeDoor
open Go.RowKit

theorem cellsOf_at {L : List ByteArray} {N j : Nat} (h : j < L.length) : (Lib.cellsOf L N)[j]? = some (.string L[j]) := by
  unfold Lib.cellsOf
  simp only [List.getElem?_toArray]
  rw [List.getElem?_append_left (by simpa using h)]
  simp [h]
theorem split_small : ∀ (k : Nat) (s x : ByteArray), x ∈ Lib.splitB ⟨#[32]⟩ 0 k s → x.size ≤ s.size
  | 0, s, x, h => by simp [Lib.splitB] at h; subst h; exact Nat.le_refl _
  | k + 1, s, x, h => by
    unfold Lib.splitB at h
    split at h
    · simp at h; subst h; exact Nat.le_refl _
    · rcases List.mem_cons.1 h with rfl | h
      · simp [ByteArray.size_extract]; omega
      · have := split_small k _ x h
        simp [ByteArray.size_extract] at this
        omega
theorem splitN_any (s : ByteArray) (hs : s.size ≤ 1048576) (m : Int) (w : World) (hM : w.cell? ⟨1, 0, none⟩ = some (.int .i64 m)) :
    Calls Tryd.prog 23 #[.string s, .string ⟨#[32]⟩, .int .i64 302] w fun e w' => ∃ (L : List ByteArray) (g gc : Nat), e = .returned (.slice (some ⟨g, 0, none⟩) L.length gc) ∧ Hid (L.map (·.data.toList) = Lib.splitK [32] 0 (min 302 (s.data.toList.length + 1) - 1) s.data.toList) ∧ THas w' g L ∧ w.heap.size ≤ g ∧ (∀ x ∈ L, x.size ≤ 1048576) ∧ Below w.heap.size w w' := by
  refine (Tryd.strings_SplitN s ⟨#[32]⟩ 302 m w (by omega) hM (by decide) (by omega) (by omega)).mono ?_
  rintro e w1 ⟨rfl, rfl⟩
  refine ⟨_, w.heap.size, _, rfl, ?_, ⟨by simp, fun j hj => ?_⟩, Nat.le_refl _, fun x hx => Nat.le_trans (split_small _ _ _ hx) hs, (Below.refl _ _).alloc (Nat.le_refl _) _⟩
  · show _ = _
    rw [Lib.splitB_data]
    rfl
  · have h := cellsOf_at (N := min 302 (s.size + 1)) hj
    have hb := Go.Deep.blk_alloc_new w (.cells (Lib.cellsOf (Lib.splitB ⟨#[32]⟩ 0 (min 302 (s.size + 1) - 1) s) (min 302 (s.size + 1))) 9)
    unfold World.cell?
    rw [hb]
    exact h

end Go.Proofs.YtmnohgcjdhokdaeDoor
