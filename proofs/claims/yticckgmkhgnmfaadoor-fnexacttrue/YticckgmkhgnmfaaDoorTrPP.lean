/-
  Plain: the true answers to a list of texts.
-/
import Derived.Test.YticckgmkhgnmfaaDoorPack2
import Derived.Test.YticckgmkhgnmfaaDoorAnrP
import Derived.Test.YticckgmkhgnmfaaDoorPack5
set_option linter.unusedVariables false
set_option linter.unusedSimpArgs false
namespace Go.Proofs.YticckgmkhgnmfaaDoor
open Go Go.RowKit

def txB (l : List UInt8) : ByteArray := ⟨l.toArray⟩
/-- How it stands behind some of the texts. -/
structure TrS where
  G : Nat → Int
  v : Nat
  out : List ByteArray
def trNo : ByteArray := txB [110, 111]
def trYes (v : Nat) : ByteArray := txB ([111, 107, 32] ++ Lib.decDigits v)
def trAns (p : Int) (n : Nat) (F T G : Nat → Int) (v : Nat) (a b : Int) : ByteArray := txB (Lib.decDigits v ++ (32 :: dT (lenD p n F T G a) (listD p n F T G a) b))
def trDo (p : Int) (n : Nat) (F T : Nat → Int) (st : TrS) (r : Option (Int × List Int)) : Option TrS :=
  if r.isSome = true then
    (if kOf r = 2 then (match resOf p n F T st.G ((lOf r).length / 3) (at3 (lOf r) 0) (at3 (lOf r) 1) (at3 (lOf r) 2) with
      | none => some ⟨st.G, st.v, st.out ++ [trNo]⟩
      | some H => some ⟨H, st.v + 1, st.out ++ [trYes (st.v + 1)]⟩)
    else if kOf r = 3 then some ⟨st.G, st.v, st.out ++ [trAns p n F T st.G st.v (aOf r 0) (aOf r 1)]⟩
    else some st)
  else none
def trAt (p : Int) (n : Nat) (F T G : Nat → Int) (S : Nat → ByteArray) : Nat → Option TrS
  | 0 => some ⟨G, 0, []⟩
  | i + 1 => match trAt p n F T G S i with
    | none => none
    | some st => trDo p n F T st (onlyOk (rdS (S i).data.toList))
def trL (p : Int) (n : Nat) (F T G : Nat → Int) (S : Nat → ByteArray) (m : Nat) : List ByteArray :=
  if graphB p n F T G = true then (match trAt p n F T G S m with | none => [] | some st => st.out) else []
theorem trAt_none {p : Int} {n : Nat} {F T G : Nat → Int} {S : Nat → ByteArray} {i : Nat} (h : trAt p n F T G S i = none) : ∀ m, i ≤ m → trAt p n F T G S m = none := by
  intro m hm
  induction m with
  | zero => rw [Nat.le_zero.1 hm] at h; exact h
  | succ m ih =>
    by_cases e : i = m + 1
    · rw [← e]; exact h
    · simp only [trAt]; rw [ih (by omega)]
theorem trDo_len {p : Int} {n : Nat} {F T : Nat → Int} {st st' : TrS} {r : Option (Int × List Int)} (h : trDo p n F T st r = some st') : st'.v ≤ st.v + 1 ∧ st'.out.length ≤ st.out.length + 1 := by
  unfold trDo at h
  split at h
  · split at h
    · split at h
      · obtain rfl := Option.some.inj h; simp
      · obtain rfl := Option.some.inj h; simp
    · split at h
      · obtain rfl := Option.some.inj h; simp
      · obtain rfl := Option.some.inj h; simp
  · cases h
theorem trAt_len {p : Int} {n : Nat} {F T G : Nat → Int} {S : Nat → ByteArray} : ∀ {i : Nat} {st : TrS}, trAt p n F T G S i = some st → st.v ≤ i ∧ st.out.length ≤ i
  | 0, st, h => by obtain rfl := Option.some.inj h; simp
  | i + 1, st, h => by
    simp only [trAt] at h
    split at h
    · cases h
    · next st0 h0 =>
      have h1 := trAt_len h0
      have h2 := trDo_len h
      omega
theorem trAt_next {p : Int} {n : Nat} {F T G : Nat → Int} {S : Nat → ByteArray} {i : Nat} {st : TrS} (h : trAt p n F T G S i = some st) : trAt p n F T G S (i + 1) = trDo p n F T st (onlyOk (rdS (S i).data.toList)) := by
  simp only [trAt]; rw [h]
theorem onlyOk_two {r : Option (Int × List Int)} {x : Option (Int × List Int)} (h : onlyOk x = r) (hk : kOf r = 2) : (lOf r).length / 3 ≤ 10 ∧ WfTo (at3 (lOf r) 0) (at3 (lOf r) 1) ((lOf r).length / 3) := by
  subst h
  cases x with
  | none => simp [onlyOk, kOf] at hk
  | some q =>
    obtain ⟨K, ns⟩ := q
    by_cases hq : okC K ns = true
    · have e : onlyOk (some (K, ns)) = some (K, ns) := by simp [onlyOk, hq]
      rw [e] at hk ⊢
      simp only [kOf] at hk
      subst hk
      have e2 : lOf (some (2, ns)) = ns := by simp [lOf]
      rw [e2]
      simp [okC, cmdB, batchB] at hq
      obtain ⟨h1, h2, h3⟩ := hq
      refine ⟨h2, fun k hk => ?_⟩
      have := arcB_iff.1 (batB_at h3 hk)
      exact ⟨WalkArith.wf_i64 (by omega), WalkArith.wf_i64 (by omega)⟩
    · have e : onlyOk (some (K, ns)) = none := by simp [onlyOk, hq]
      rw [e] at hk
      simp [kOf] at hk
/-- Cells of texts. -/
def slc (l : List ByteArray) : List Value := l.map Value.string
theorem slc_len (l : List ByteArray) : (slc l).length = l.length := by simp [slc]
theorem slc_lf (l : List ByteArray) (j : Nat) (h : j < l.length) : lf (slc l) j = .string (l.getD j ByteArray.empty) := by
  simp [lf, slc, h]
/-- Texts of one's own. -/
def OwS (w : World) (base : Nat) (ao : Option Addr) (cap : Nat) (l : List ByteArray) : Prop := GOwn w base 9 1 ao l.length cap (lf (slc l))
theorem OwS.next {w w' : World} {base : Nat} {ao : Option Addr} {cap : Nat} {l : List ByteArray} (h : OwS w base ao cap l) (hb : Below w.heap.size w w') : OwS w' base ao cap l := GOwn.next h hb
theorem OwS.nil (w : World) (base : Nat) : OwS w base none 0 [] := GOwn.nil _ _ _ _ _
theorem OwS.more {w : World} {base : Nat} {ao : Option Addr} {cap : Nat} {l : List ByteArray} {x : ByteArray} (h : GOwn w base 9 1 ao (l.length + 1) cap (fun j => if j < l.length * 1 then lf (slc l) j else (fun _ => Value.string x) (j - l.length * 1))) : OwS w base ao cap (l ++ [x]) := by
  unfold OwS
  rw [List.length_append]
  refine GOwn.congr h (fun j hj => ?_)
  by_cases q : j < l.length
  · rw [if_pos (by omega), slc_lf _ _ q, slc_lf _ _ (by simp; omega)]
    rw [List.getD_eq_getElem?_getD, List.getD_eq_getElem?_getD, List.getElem?_append_left q]
  · have e : j = l.length := by simp at hj; omega
    subst e
    rw [if_neg (by omega), slc_lf _ _ (by simp)]
    simp

end Go.Proofs.YticckgmkhgnmfaaDoor
