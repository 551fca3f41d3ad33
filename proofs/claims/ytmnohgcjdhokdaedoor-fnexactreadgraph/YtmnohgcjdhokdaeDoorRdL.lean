/-
  The program's numbers of words.
-/
import Derived.Test.YtmnohgcjdhokdaeDoorRdN
import Derived.Test.YtmnohgcjdhokdaeDoorInts
set_option linter.unusedVariables false
set_option linter.unusedSimpArgs false
namespace Go.Proofs.YtmnohgcjdhokdaeDoor
open Go.RowKit
attribute [local go_sem ↓] Go.wp_at_zero Go.wp_at_succ

/-- Texts that lie in a block. -/
def THas (w : World) (g : Nat) (L : List ByteArray) : Prop := g < w.heap.size ∧ ∀ j (h : j < L.length), w.cell? ⟨g, j, none⟩ = some (.string L[j])
theorem THas.below {w w' : World} {g : Nat} {L : List ByteArray} {B : Nat} (h : THas w g L) (hb : Below B w w') (hB : g < B) : THas w' g L := by
  have hs := hb.size
  refine ⟨?_, fun j hj => ?_⟩
  · have := h.1
    omega
  · have := h.2 j hj
    unfold World.cell? at this ⊢
    rw [hb.block g hB]
    exact this
def allN (L : List ByteArray) : Option (List Int) := (L.map (·.data.toList)).mapM num1
theorem mapM_snoc {L : List (List UInt8)} {a : List UInt8} {ns : List Int} (h : L.mapM num1 = some ns) : (L ++ [a]).mapM num1 = (num1 a).map (fun n => ns ++ [n]) := by
  rw [List.mapM_append, h]
  simp only [List.mapM_cons, List.mapM_nil]
  cases num1 a <;> rfl
theorem mapM_dead {L : List (List UInt8)} {a : List UInt8} {M : List (List UInt8)} (h : num1 a = none) : (L ++ a :: M).mapM num1 = none := by
  rw [List.mapM_append]
  cases L.mapM num1 with
  | none => rfl
  | some ns => simp [List.mapM_cons, h]
theorem allN_take {L : List ByteArray} {i : Nat} (hi : i < L.length) : allN (L.take (i + 1)) = match allN (L.take i) with | some ns => (num1 L[i].data.toList).map (fun n => ns ++ [n]) | none => none := by
  unfold allN
  rw [List.take_succ_eq_append_getElem hi, List.map_append]
  cases h : ((L.take i).map (·.data.toList)).mapM num1 with
  | none => rw [List.mapM_append, h]; rfl
  | some ns => exact mapM_snoc h
theorem allN_none {L : List ByteArray} {i : Nat} (hi : i < L.length) (h : num1 L[i].data.toList = none) : allN L = none := by
  unfold allN
  have e : L = L.take i ++ L[i] :: L.drop (i + 1) := by
    conv => lhs; rw [← List.take_append_drop i L]
    rw [List.drop_eq_getElem_cons hi]
  rw [e, List.map_append, List.map_cons]
  exact mapM_dead h
def LAns (w w' : World) (e : Ending) (L : List ByteArray) : Prop := match allN L with
  | some ns => ∃ b, e = .returned (.tuple #[.slice (some ⟨b, 0, none⟩) L.length L.length, .bool true]) ∧ w.heap.size ≤ b ∧ IHas w' b L.length (fun j => ns.getD j 0)
  | none => e = .returned (.tuple #[.slice none 0 0, .bool false])
set_option maxHeartbeats 2000000 in
theorem readNumbers_any (g : Nat) (gc : Nat) (L : List ByteArray) (n : Nat) (hn : n = L.length) (h9 : n ≤ 1048576) (hL : ∀ x ∈ L, x.size ≤ 1048576) (w : World) (hT : THas w g L) (hV : Vars w) :
    Calls Tryd.prog 24 #[.slice (some ⟨g, 0, none⟩) n gc] w fun e w' => LAns w w' e L ∧ Below w.heap.size w w' := by
  have HN : Hid (n = L.length) := hn
  clear hn
  go_enter Tryd.func24, Tryd.ntmps24
  have hmk := make_ints n h9
  go_wp2
  clear hmk
  have hI0 := made_ints w n
  go_loopw [14] (fun x wr => ∃ (i : Nat) (ns : List Int), i ≤ n ∧ x = .int .i64 i ∧ Hid (allN (L.take i) = some ns ∧ ns.length = i) ∧ IHas wr w.heap.size n (fun j => ns.getD j 0) ∧ Below w.heap.size w wr) (fun x _ => n - (intOf x).toNat)
  case atStart => exact ⟨0, [], Nat.zero_le _, rfl, ⟨rfl, rfl⟩, hI0.congr (fun j _ => by simp), (Below.refl _ _).alloc (Nat.le_refl _) _⟩
  case round =>
    clear hI0
    obtain ⟨i, ns, hi, rfl, HS, hI, hbel⟩ := hrel
    by_cases hlt : i < n
    · have hlt' : (i : Int) < (n : Int) := by omega
      have hi0 : (0 : Int) ≤ (i : Int) := by omega
      obtain ⟨x, hx⟩ : ∃ x, L[i]? = some x := ⟨L[i]'(by have := HN.out; omega), List.getElem?_eq_getElem _⟩
      have HX : Hid (L[i]? = some x) := hx
      have hxm : x.size ≤ 1048576 := hL x (List.mem_of_getElem? hx)
      have c0 : wr.cell? ⟨g, i, none⟩ = some (.string x) := by
        have h1 := (hT.below hbel hT.1).2 i (by have := HN.out; omega)
        rw [List.getElem?_eq_getElem (by have := HN.out; omega)] at hx
        injection hx with hx
        rw [← hx]
        exact h1
      clear hx
      go_wp2_with fail
      refine (readNumber_any x hxm _ (hV.below hbel)).mono ?_
      rintro e w1 ⟨he, hb⟩
      have hB1 := below_next hbel (Nat.le_refl _) hb
      have hI1 := hI.below hb hI.lt
      clear c0
      cases hnum : num1 x.data.toList with
      | none =>
        have he1 : e = .returned (.tuple #[.int .i64 0, .bool false]) := by rw [he, hnum]; rfl
        subst he1
        have HE : Hid (allN L = none) := by
          have h1 := HX.out
          rw [List.getElem?_eq_getElem (by have := HN.out; omega)] at h1
          injection h1 with h1
          exact allN_none (i := i) (by have := HN.out; omega) (by rw [h1]; exact hnum)
        clear he
        go_wp2
        exact bodyPost_ret (v := .tuple #[.slice none 0 0, .bool false]) (by simp [results, Tryd.results24, go_sem]) rfl ⟨by unfold LAns; rw [HE.out], hB1⟩
      | some v =>
        have he1 : e = .returned (.tuple #[.int .i64 v, .bool true]) := by rw [he, hnum]; rfl
        subst he1
        have HS1 : Hid (allN (L.take (i + 1)) = some (ns ++ [v]) ∧ (ns ++ [v]).length = i + 1) := by
          have h1 := HX.out
          rw [List.getElem?_eq_getElem (by have := HN.out; omega)] at h1
          injection h1 with h1
          refine ⟨?_, by simp [HS.out.2]⟩
          rw [allN_take (by have := HN.out; omega), HS.out.1, h1, hnum]
          rfl
        have hl := HS.out.2
        have hI2 := (hI1.set i v).congr (g := fun j => (ns ++ [v]).getD j 0) (fun j hj => by
          simp only [List.getD_eq_getElem?_getD]
          by_cases c : j = i
          · subst c; rw [if_pos rfl, List.getElem?_append_right (by omega)]; simp [hl]
          · rw [if_neg c]
            by_cases c2 : j < i
            · rw [List.getElem?_append_left (by omega)]
            · rw [List.getElem?_eq_none (by omega), List.getElem?_eq_none (by simp; omega)])
        have hB2 := hB1.setCell (p := ⟨w.heap.size, i, none⟩) (Nat.le_refl _) (.int .i64 v)
        have d0 := hI1.cell hlt
        have z0 := hI1.frozen
        clear he hl hnum
        go_wp2
        go_roundw
        case rel => exact ⟨i + 1, ns ++ [v], by omega, by go_num, HS1, hI2, hB2⟩
        case measure => simp [intOf]; omega
    · have hin : i = n := by omega
      subst hin
      go_wp2
      have hl := HN.out
      have hS := HS.out
      rw [hl, List.take_length] at hS
      exact bodyPost_ret (v := .tuple #[.slice (some ⟨w.heap.size, 0, none⟩) i i, .bool true]) (by simp [results, Tryd.results24, go_sem]) rfl ⟨by unfold LAns; rw [hS.1, ← hl]; exact ⟨_, rfl, Nat.le_refl _, hI⟩, hbel⟩

end Go.Proofs.YtmnohgcjdhokdaeDoor
