/-
  Numbers as text: the document's digits and the library's are one, for every number that is not below nought.
-/
import Derived.Test.YtmnohgcjdhokdaeDoorBase
import Derived.Test.YtmnohgcjdhokdaeDoorShelf
import Derived.Lib.AppendIntMem
import Derived.Laws.BytesString
import Derived.Laws.IdiomStrings
set_option linter.unusedVariables false
set_option linter.unusedSimpArgs false
namespace Go.Proofs.YtmnohgcjdhokdaeDoor
open Go.RowKit

def tabName : String := "internal/strconv.uint64pow10"
def Tab (w : World) : Prop := Lib.TabIs Tryd.prog w tabName .u64 Lib.pow10Tab

theorem Tab.below {w w' : World} {B : Nat} (h : Tab w) (hb : Below B w w') (hB : w.heap.size ≤ B) : Tab w' := by
  unfold Tab Lib.TabIs World.var? at h ⊢
  cases hg : Tryd.prog.globalNamed tabName with
  | none => rw [hg] at h; cases h
  | some g =>
    rw [hg] at h
    simp only [Option.bind_some] at h ⊢
    by_cases hlt : g < w.heap.size
    · rw [hb.block g (by omega)]; exact h
    · rw [Array.getElem?_eq_none (Nat.le_of_not_lt hlt)] at h; cases h

/-- A text out of its bytes. -/
abbrev txt (l : List UInt8) : Value := .string ⟨l.toArray⟩

/-- strconv.FormatInt, over the library's own. -/
theorem fmtInt_any (n : Int) (h0 : -9223372036854775808 ≤ n) (h1 : n ≤ 9223372036854775807) (w : World) (ht : Tab w) :
    Calls Tryd.prog 34 #[.int .i64 n, .int .i64 10] w fun e w' => e = .returned (txt (Lib.itoa n)) ∧ Below w.heap.size w w' := by
  go_enter Tryd.func34, Tryd.ntmps34
  go_wp2_with fail
  refine (Tryd.internal_strconv_FormatInt_10 n h0 h1 _ ht).mono ?_
  rintro e w' ⟨rfl, k, os, rfl⟩
  go_wp2
  go_ret
  exact ⟨rfl, Lib.below_grow _ _ (Nat.le_refl _) _ _⟩
theorem showNumber_any (n : Int) (h0 : 0 ≤ n) (h1 : n ≤ 9223372036854775807) (w : World) (ht : Tab w) :
    Calls Tryd.prog 19 #[.int .i64 n] w fun e w' => e = .returned (txt (Lib.decDigits n.toNat)) ∧ Below w.heap.size w w' := by
  have e : Lib.itoa n = Lib.decDigits n.toNat := by unfold Lib.itoa; rw [if_neg (by omega)]
  go_enter Tryd.func19, Tryd.ntmps19
  go_wp2_with (go_at_call 34; refine (fmtInt_any n (by omega) h1 _ ht).mono ?_; rintro e w' ⟨rfl, hbf⟩)
  go_ret
  refine ⟨?_, hbf⟩
  first | rfl | (rw [e]; rfl)

/-- What is still to come, and what is there already, are the digits. -/
def Inv (N u : Nat) (l : List UInt8) : Prop := Lib.decDigits N = (if u = 0 ∧ l ≠ [] then l else Lib.decDigits u ++ l)
theorem decDigits_ten {u : Nat} (h : 10 ≤ u) : Lib.decDigits u = Lib.decDigits (u / 10) ++ [UInt8.ofNat (48 + u % 10)] := by
  rw [Lib.decDigits, dif_neg (by omega)]
theorem decDigits_one {u : Nat} (h : u < 10) : Lib.decDigits u = [UInt8.ofNat (48 + u)] := by
  rw [Lib.decDigits, dif_pos h]
theorem Inv.step {N u : Nat} {l : List UInt8} (h : Inv N u l) (hc : l = [] ∨ u ≠ 0) : Inv N (u / 10) (UInt8.ofNat (48 + u % 10) :: l) := by
  unfold Inv at h ⊢
  rw [if_neg (by rintro ⟨h1, h2⟩; rcases hc with hc | hc; exact h2 hc; exact hc h1)] at h
  rw [h]
  by_cases hu : u < 10
  · rw [if_pos ⟨by omega, by simp⟩, decDigits_one hu, Nat.mod_eq_of_lt hu]; rfl
  · rw [if_neg (by rintro ⟨h1, _⟩; omega), decDigits_ten (by omega)]; simp
theorem Inv.fin {N : Nat} {l : List UInt8} (h : Inv N 0 l) (hl : l ≠ []) : Lib.decDigits N = l := by
  unfold Inv at h; rw [if_pos ⟨rfl, hl⟩] at h; exact h
theorem decDigits_len : ∀ u : Nat, (Lib.decDigits u).length ≤ u + 1 := by
  intro u
  induction u using Nat.strongRecOn with
  | ind u ih =>
    by_cases hu : u < 10
    · rw [decDigits_one hu]; simp
    · rw [decDigits_ten (by omega)]
      have := ih (u / 10) (by omega)
      simp; omega
theorem Inv.len {N u : Nat} {l : List UInt8} (h : Inv N u l) : l.length ≤ N + 1 := by
  unfold Inv at h
  have := decDigits_len N
  rw [h] at this
  split at this
  · exact this
  · simp at this; omega
def txtLen : Value → Nat | .string s => s.size | _ => 0

theorem bytes_add (a b : List UInt8) : (⟨a.toArray⟩ : ByteArray) ++ ⟨b.toArray⟩ = ⟨(a ++ b).toArray⟩ := by
  apply ByteArray.ext
  simp
theorem txt_cons (u : Nat) (l : List UInt8) : Value.string ({ data := #[48 + UInt8.ofNat (u % 10)] } ++ { data := l.toArray }) = txt (UInt8.ofNat (48 + u % 10) :: l) := by
  have h : (48 + UInt8.ofNat (u % 10) : UInt8) = UInt8.ofNat (48 + u % 10) := by rw [UInt8.ofNat_add]; rfl
  rw [h]
  exact congrArg Value.string (bytes_add [UInt8.ofNat (48 + u % 10)] l)

theorem conv_one (x : Int) (w : World) :
    (convert 54 9 (.slice (some ⟨w.heap.size, 0, none⟩) 1 1)).run Tryd.prog (w.alloc (.cells #[.int .u8 x] 5)) = .ok (txt [UInt8.ofNat x.toNat]) (w.alloc (.cells #[.int .u8 x] 5)) := by
  rw [run_convert_bytes_string _ 54 9 5 _ 1 1 Tryd.underlying54 Tryd.underlying5 Tryd.underlying9]
  have hl := run_loadCells_list (P := Tryd.prog) (w.alloc (.cells #[.int .u8 x] 5)) ⟨w.heap.size, 0, none⟩ [.int .u8 x] (fun j u hj => by
    match j, hj with
    | 0, hj => simp at hj; subst hj; simp [Addr.add, go_sem])
  rw [run_bytesToString _ _ 1 1 [x] (by simpa using hl)]
  rfl

set_option maxHeartbeats 400000 in
set_option maxRecDepth 20000 in
theorem l1Int_any (N : Nat) (h1 : N ≤ 1000000000000) (w : World) :
    Calls Tryd.prog 29 #[.int .i64 N] w fun e w' => e = .returned (txt (Lib.decDigits N)) ∧ Below w.heap.size w w' := by
  have hcv := conv_one
  go_enter Tryd.func29, Tryd.ntmps29
  go_wp2
  go_loopw [0, 3] (fun x s wr => ∃ (u : Nat) (l : List UInt8), u ≤ N ∧ x = .int .i64 u ∧ s = txt l ∧ Inv N u l ∧ Below w.heap.size w wr) (fun x s _ => (intOf x).toNat + (1 - txtLen s))
  case atStart => exact ⟨N, [], Nat.le_refl _, rfl, rfl, by simp [Inv], Below.refl _ _⟩
  case round =>
    obtain ⟨u, l, hu, rfl, rfl, hinv, hbel⟩ := hrel
    have hl := hinv.len
    have HI : Hid (Inv N u l) := hinv
    clear hinv
    by_cases he : l = []
    · subst he
      go_wp2
      go_roundw
      case rel => exact ⟨u / 10, [UInt8.ofNat (48 + u % 10)], by omega, by go_num, txt_cons u [], HI.out.step (Or.inl rfl), hbel.alloc hbel.size _⟩
      case measure => rw [txt_cons u []]; simp [intOf, txtLen, ByteArray.size]; omega
    have hne : l.isEmpty = false := by simpa using he
    have hll : 0 < l.length := List.length_pos_iff.2 he
    by_cases hz : u = 0
    · subst hz
      go_wp2
      go_ret
      exact ⟨congrArg (fun x => Ending.returned (txt x)) (HI.out.fin he).symm, hbel⟩
    · have hz' : ((u : Int) != 0) = true := by simp; omega
      go_wp2
      go_roundw
      case rel => exact ⟨u / 10, UInt8.ofNat (48 + u % 10) :: l, by omega, by go_num, txt_cons u l, HI.out.step (Or.inr hz), hbel.alloc hbel.size _⟩
      case measure => rw [txt_cons u l]; simp [intOf, txtLen, ByteArray.size]; omega

end Go.Proofs.YtmnohgcjdhokdaeDoor
