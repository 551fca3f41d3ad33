/-
  Helpers, merged: Core, Base, Num, TxtP, GrP, RdN, Ints, RdL, Small, Keys, Has, Mark, Vh, In, Ok, CmdP.
-/
import Derived.Test.YtcmeppjfjledfaaDoorRows
import Derived.WalkKit
import Derived.WalkSpells
import Derived.WalkLawsBesides
import Derived.Deep.RegionHeld3
import Derived.Deep.OwnRows
import Derived.Deep.QuietTactic
import Derived.BigQuiet
import Derived.Deep.DrawnRows
import Derived.ProofKit
import Derived.OpenShut
import Derived.ChangeOld
import Derived.Deep.Slices
import Derived.Deep.Strs
import Derived.Lib.SmallJoins
import Derived.Test.YtcmeppjfjledfaaDoorShelf
import Derived.Lib.AppendIntMem
import Derived.Laws.BytesString
import Derived.Laws.IdiomStrings
import Derived.Lib.ParseIntB
import Derived.Lib.ItoaMem
import Derived.Lib.Split
import Derived.Maps.Own
import Derived.Maps.OwnOps
import Derived.Maps.OwnSet
import Derived.Maps.Views
import Derived.DeepKeys4
import Derived.Laws.CopyOwn
import Derived.Maps.AppendAt
import Derived.Maps.Range
import Derived.Deep.AppendLies
/-
  What needs no function of the program: cells of an older world in a later one, numbers in bounds, two pairs in their order.
-/
set_option linter.unusedVariables false
set_option linter.unusedSimpArgs false
namespace Go.Proofs.YtcmeppjfjledfaaDoor
open Go.RowKit

theorem lt_of_cell {w : World} {b o : Nat} {v : Value} (h : w.cell? ⟨b, o, none⟩ = some v) : b < w.heap.size := by
  by_cases hb : b < w.heap.size
  · exact hb
  · simp [World.cell?, Array.getElem?_eq_none (Nat.le_of_not_lt hb)] at h
/-- Behind a call that has turned nothing old: all old cells and marks read as before. -/
theorem bcell {W w1 : World} (hb : Below W.heap.size W w1) : (∀ b o, b < W.heap.size → w1.cell? ⟨b, o, none⟩ = W.cell? ⟨b, o, none⟩) ∧ (∀ b o, b < W.heap.size → w1.frozen? ⟨b, o, none⟩ = W.frozen? ⟨b, o, none⟩) :=
  ⟨fun _ _ h => hb.cell h, fun _ _ h => hb.frozen h⟩
/-- So far k arcs have been copied; behind them all is nought. -/
def upto (f : Nat → Int) (m j : Nat) : Int := if j < m then f j else 0
def inB (x lo hi : Int) : Bool := decide (lo ≤ x) && decide (x ≤ hi)
def upB (f t f' t' : Int) : Bool := decide (f < f') || (f == f' && decide (t < t'))
theorem upB_yes1 {f t f' t' : Int} (h : f < f') : upB f t f' t' = true := by simp [upB, h]
theorem upB_yes2 {f t f' t' : Int} (h : f ≤ f') (h' : f' ≤ f) (ht : t < t') : upB f t f' t' = true := by
  have : f = f' := by omega
  simp [upB, this, ht]
theorem upB_no1 {f t f' t' : Int} (h : f' < f) : upB f t f' t' = false := by simp [upB]; omega
theorem upB_no2 {f t f' t' : Int} (h : f ≤ f') (h' : f' ≤ f) (ht : t' ≤ t) : upB f t f' t' = false := by simp [upB]; omega
theorem ret_bool {a b : Bool} (h : a = b) : Ending.returned (.bool a) = .returned (.bool b) := by rw [h]
/-- Behind the box of its argument a function has turned nothing old. -/
theorem unbox {w w' : World} {o : Obj} {B : Nat} (h : Below B (w.alloc o) w') (hB : w.heap.size ≤ B) : Below w.heap.size w w' :=
  ((Below.refl _ _).alloc (Nat.le_refl _) _).trans (h.mono hB)
theorem three_lt {w wr w1 : World} {o : Obj} {b : Nat} (h : Below (wr.alloc o).heap.size (wr.alloc o) w1) (h1 : w.heap.size < wr.heap.size) (h2 : b < wr.heap.size) : wr.heap.size < w1.heap.size ∧ w.heap.size < w1.heap.size ∧ b < w1.heap.size := by
  have := h.size; simp at this; omega
theorem keep_cell {W W' : World} {B b o : Nat} {v : Value} (hb : Below B W W') (hB : W.heap.size ≤ B) (h : W.cell? ⟨b, o, none⟩ = some v) : W'.cell? ⟨b, o, none⟩ = some v := by
  have := lt_of_cell h
  rw [hb.cell (by simp; omega)]; exact h
theorem below_next {B : Nat} {a W W' : World} (h : Below B a W) (hB : B ≤ a.heap.size) (hb : Below W.heap.size W W') : Below B a W' := h.trans (hb.mono (Nat.le_trans hB h.size))
/-- The box of an argument of two cells, in a later world. -/
theorem box2 {w W : World} {a0 a1 : Value} {t : TypeId} (h : Below (w.heap.size + 1) (w.alloc (.cells #[a0, a1] t)) W) :
    W.cell? ⟨w.heap.size, 0, none⟩ = some a0 ∧ W.cell? ⟨w.heap.size, 1, none⟩ = some a1 ∧ w.heap.size < W.heap.size := by
  refine ⟨by rw [h.cell (by simp)]; simp [go_sem], by rw [h.cell (by simp)]; simp [go_sem], by have := h.size; simp at this; omega⟩
theorem boxed {w W : World} {o : Obj} (h : Below (w.alloc o).heap.size (w.alloc o) W) : Below (w.heap.size + 1) (w.alloc o) W := h.mono (by simp)

end Go.Proofs.YtcmeppjfjledfaaDoor

/-
  What every law's shell asks of the program as a whole, and the size of a number.
-/
set_option linter.unusedVariables false
set_option linter.unusedSimpArgs false
namespace Go.Proofs.YtcmeppjfjledfaaDoor
open Go.ChangeShapes Go.WideShapes Go.ChangeAt Go.RowKit Go.Deep Go.Joins

theorem Tryd.own : ownKnob Tryd.prog.godebug = none := by kernel_rfl
theorem Tryd.laidOut : laidOutB Tryd.prog = true := by kernel_rfl
theorem Tryd.cellsInt : Tryd.prog.cellsOf 2 = 1 := by kernel_rfl

theorem gr_setCell (w : World) (b o : Nat) (v : Value) : w.grownBy (w.setCell ⟨b, o, none⟩ v) (some b) :=
  ⟨rfl, rfl, rfl, by simp [World.setCell], fun k _ hne => Below.heap_setCell _ _ _ _ (fun e => hne (by rw [e]))⟩
theorem gr_below {w w' : World} {b B : Nat} (h : w.grownBy w' (some b)) (hb : B ≤ b) (hB : B ≤ w.heap.size) : Below B w w' :=
  ⟨h.os, h.tape, h.output, h.size, fun k hk => h.block k (by omega) (fun e => by simp at e; omega)⟩

end Go.Proofs.YtcmeppjfjledfaaDoor

/-
  Numbers as text: the document's digits and the library's are one, for every number that is not below nought.
-/
set_option linter.unusedVariables false
set_option linter.unusedSimpArgs false
namespace Go.Proofs.YtcmeppjfjledfaaDoor
open Go.RowKit

def tabName : String := "internal/strconv.uint64pow10"
def Tab (w : World) : Prop := Lib.TabIs Tryd.prog w tabName .u64 Lib.pow10Tab

theorem Tab.below {w w' : World} {B : Nat} (h : Tab w) (hb : Below B w w') (hB : w.heap.size ≤ B) : Tab w' := by
  unfold Tab Lib.TabIs World.var? at h ⊢
  cases hg : Tryd.prog.globalNamed tabName with
  | none => rw [hg] at h; cases h
  | some g =>
    rw [hg] at h
    simp only [Option.bind_some] at h ⊢
    by_cases hlt : g < w.heap.size
    · rw [hb.block g (by omega)]; exact h
    · rw [Array.getElem?_eq_none (Nat.le_of_not_lt hlt)] at h; cases h

/-- A text out of its bytes. -/
abbrev txt (l : List UInt8) : Value := .string ⟨l.toArray⟩

/-- strconv.FormatInt, over the library's own. -/
theorem fmtInt_any (n : Int) (h0 : -9223372036854775808 ≤ n) (h1 : n ≤ 9223372036854775807) (w : World) (ht : Tab w) :
    Calls Tryd.prog 29 #[.int .i64 n, .int .i64 10] w fun e w' => e = .returned (txt (Lib.itoa n)) ∧ Below w.heap.size w w' := by
  go_enter Tryd.func29, Tryd.ntmps29
  go_wp2_with fail
  refine (Tryd.internal_strconv_FormatInt_10 n h0 h1 _ ht).mono ?_
  rintro e w' ⟨rfl, k, os, rfl⟩
  go_wp2
  go_ret
  exact ⟨rfl, Lib.below_grow _ _ (Nat.le_refl _) _ _⟩
theorem showNumber_any (n : Int) (h0 : 0 ≤ n) (h1 : n ≤ 9223372036854775807) (w : World) (ht : Tab w) :
    Calls Tryd.prog 14 #[.int .i64 n] w fun e w' => e = .returned (txt (Lib.decDigits n.toNat)) ∧ Below w.heap.size w w' := by
  have e : Lib.itoa n = Lib.decDigits n.toNat := by unfold Lib.itoa; rw [if_neg (by omega)]
  go_enter Tryd.func14, Tryd.ntmps14
  go_wp2_with (go_at_call 29; refine (fmtInt_any n (by omega) h1 _ ht).mono ?_; rintro e w' ⟨rfl, hbf⟩)
  go_ret
  refine ⟨?_, hbf⟩
  first | rfl | (rw [e]; rfl)

/-- What is still to come, and what is there already, are the digits. -/
def Inv (N u : Nat) (l : List UInt8) : Prop := Lib.decDigits N = (if u = 0 ∧ l ≠ [] then l else Lib.decDigits u ++ l)
theorem decDigits_ten {u : Nat} (h : 10 ≤ u) : Lib.decDigits u = Lib.decDigits (u / 10) ++ [UInt8.ofNat (48 + u % 10)] := by
  rw [Lib.decDigits, dif_neg (by omega)]
theorem decDigits_one {u : Nat} (h : u < 10) : Lib.decDigits u = [UInt8.ofNat (48 + u)] := by
  rw [Lib.decDigits, dif_pos h]
theorem Inv.step {N u : Nat} {l : List UInt8} (h : Inv N u l) (hc : l = [] ∨ u ≠ 0) : Inv N (u / 10) (UInt8.ofNat (48 + u % 10) :: l) := by
  unfold Inv at h ⊢
  rw [if_neg (by rintro ⟨h1, h2⟩; rcases hc with hc | hc; exact h2 hc; exact hc h1)] at h
  rw [h]
  by_cases hu : u < 10
  · rw [if_pos ⟨by omega, by simp⟩, decDigits_one hu, Nat.mod_eq_of_lt hu]; rfl
  · rw [if_neg (by rintro ⟨h1, _⟩; omega), decDigits_ten (by omega)]; simp
theorem Inv.fin {N : Nat} {l : List UInt8} (h : Inv N 0 l) (hl : l ≠ []) : Lib.decDigits N = l := by
  unfold Inv at h; rw [if_pos ⟨rfl, hl⟩] at h; exact h
theorem decDigits_len : ∀ u : Nat, (Lib.decDigits u).length ≤ u + 1 := by
  intro u
  induction u using Nat.strongRecOn with
  | ind u ih =>
    by_cases hu : u < 10
    · rw [decDigits_one hu]; simp
    · rw [decDigits_ten (by omega)]
      have := ih (u / 10) (by omega)
      simp; omega
theorem Inv.len {N u : Nat} {l : List UInt8} (h : Inv N u l) : l.length ≤ N + 1 := by
  unfold Inv at h
  have := decDigits_len N
  rw [h] at this
  split at this
  · exact this
  · simp at this; omega
def txtLen : Value → Nat | .string s => s.size | _ => 0

theorem bytes_add (a b : List UInt8) : (⟨a.toArray⟩ : ByteArray) ++ ⟨b.toArray⟩ = ⟨(a ++ b).toArray⟩ := by
  apply ByteArray.ext
  simp
theorem txt_cons (u : Nat) (l : List UInt8) : Value.string ({ data := #[48 + UInt8.ofNat (u % 10)] } ++ { data := l.toArray }) = txt (UInt8.ofNat (48 + u % 10) :: l) := by
  have h : (48 + UInt8.ofNat (u % 10) : UInt8) = UInt8.ofNat (48 + u % 10) := by rw [UInt8.ofNat_add]; rfl
  rw [h]
  exact congrArg Value.string (bytes_add [UInt8.ofNat (48 + u % 10)] l)

theorem conv_one (x : Int) (w : World) :
    (convert 22 9 (.slice (some ⟨w.heap.size, 0, none⟩) 1 1)).run Tryd.prog (w.alloc (.cells #[.int .u8 x] 5)) = .ok (txt [UInt8.ofNat x.toNat]) (w.alloc (.cells #[.int .u8 x] 5)) := by
  rw [run_convert_bytes_string _ 22 9 5 _ 1 1 Tryd.underlying22 Tryd.underlying5 Tryd.underlying9]
  have hl := run_loadCells_list (P := Tryd.prog) (w.alloc (.cells #[.int .u8 x] 5)) ⟨w.heap.size, 0, none⟩ [.int .u8 x] (fun j u hj => by
    match j, hj with
    | 0, hj => simp at hj; subst hj; simp [Addr.add, go_sem])
  rw [run_bytesToString _ _ 1 1 [x] (by simpa using hl)]
  rfl

set_option maxHeartbeats 400000 in
set_option maxRecDepth 20000 in
theorem l1Int_any (N : Nat) (h1 : N ≤ 1000000000000) (w : World) :
    Calls Tryd.prog 35 #[.int .i64 N] w fun e w' => e = .returned (txt (Lib.decDigits N)) ∧ Below w.heap.size w w' := by
  have hcv := conv_one
  go_enter Tryd.func35, Tryd.ntmps35
  go_wp2
  go_loopw [0, 3] (fun x s wr => ∃ (u : Nat) (l : List UInt8), u ≤ N ∧ x = .int .i64 u ∧ s = txt l ∧ Inv N u l ∧ Below w.heap.size w wr) (fun x s _ => (intOf x).toNat + (1 - txtLen s))
  case atStart => exact ⟨N, [], Nat.le_refl _, rfl, rfl, by simp [Inv], Below.refl _ _⟩
  case round =>
    obtain ⟨u, l, hu, rfl, rfl, hinv, hbel⟩ := hrel
    have hl := hinv.len
    have HI : Hid (Inv N u l) := hinv
    clear hinv
    by_cases he : l = []
    · subst he
      go_wp2
      go_roundw
      case rel => exact ⟨u / 10, [UInt8.ofNat (48 + u % 10)], by omega, by go_num, txt_cons u [], HI.out.step (Or.inl rfl), hbel.alloc hbel.size _⟩
      case measure => rw [txt_cons u []]; simp [intOf, txtLen, ByteArray.size]; omega
    have hne : l.isEmpty = false := by simpa using he
    have hll : 0 < l.length := List.length_pos_iff.2 he
    by_cases hz : u = 0
    · subst hz
      go_wp2
      go_ret
      exact ⟨congrArg (fun x => Ending.returned (txt x)) (HI.out.fin he).symm, hbel⟩
    · have hz' : ((u : Int) != 0) = true := by simp; omega
      go_wp2
      go_roundw
      case rel => exact ⟨u / 10, UInt8.ofNat (48 + u % 10) :: l, by omega, by go_num, txt_cons u l, HI.out.step (Or.inr hz), hbel.alloc hbel.size _⟩
      case measure => rw [txt_cons u l]; simp [intOf, txtLen, ByteArray.size]; omega

end Go.Proofs.YtcmeppjfjledfaaDoor

/-
  Numbers in a text, plainly: how the document reads them, how the program does, and that both read the same of numbers that are not below nought.
-/
set_option linter.unusedVariables false
set_option linter.unusedSimpArgs false
namespace Go.Proofs.YtcmeppjfjledfaaDoor

def isD (c : UInt8) : Bool := decide (48 ≤ c.toNat) && decide (c.toNat ≤ 57)
def dg (c : UInt8) : Int := (c.toNat : Int) - 48
def val (l : List UInt8) : Int := l.foldl (fun n c => n * 10 + dg c) 0
/-- A number's digits, behind a sign or none. -/
def numD (neg : Bool) (d : List UInt8) : Option Int :=
  if d.length = 0 ∨ 9 < d.length then none else if d.all isD = false then none else if d.head? = some 48 ∧ (neg = true ∨ 1 < d.length) then none else some (if neg = true then - val d else val d)
def num1 (s : List UInt8) : Option Int := if s.head? = some 45 then numD true s.tail else numD false s
/-- The document's numbers: what is there, what is being read. -/
def snums : List UInt8 → List Int → List UInt8 → Option (List Int)
  | [], out, cur => (num1 cur).map fun n => out ++ [n]
  | c :: t, out, cur => if c = 32 then (match num1 cur with | some n => snums t (out ++ [n]) [] | none => none) else snums t out (cur ++ [c])
/-- Where the program stands: ahead of a number, in one, behind one. -/
inductive Sta where
  | ahead (out : List Int)
  | within (n : Int) (out : List Int)
  | behind (out : List Int)
def inums : List UInt8 → Sta → Option (List Int)
  | [], .ahead _ => none
  | [], .within n out => some (out ++ [n])
  | [], .behind out => some out
  | c :: t, .ahead out => if out.length = 30 then none else if c = 48 then inums t (.behind (out ++ [0])) else if isD c = true then inums t (.within (dg c) out) else none
  | c :: t, .within n out => if isD c = true then (if 999999999 < 10 * n + dg c then none else inums t (.within (10 * n + dg c) out)) else if c = 32 then inums t (.ahead (out ++ [n])) else none
  | c :: t, .behind out => if c = 32 then inums t (.ahead out) else none

theorem dg_bd {c : UInt8} (h : isD c = true) : 0 ≤ dg c ∧ dg c ≤ 9 := by
  simp [isD] at h
  unfold dg
  omega
theorem isD_ne {c : UInt8} (h : isD c = true) : c ≠ 32 ∧ c ≠ 45 := by
  constructor <;> (rintro rfl; simp [isD] at h)
theorem val_snoc (l : List UInt8) (c : UInt8) : val (l ++ [c]) = val l * 10 + dg c := by simp [val, List.foldl_append]
theorem fold_bd : ∀ (l : List UInt8) (n : Int), l.all isD = true → 0 ≤ n → n ≤ l.foldl (fun n c => n * 10 + dg c) n
  | [], n, _, _ => Int.le_refl _
  | c :: t, n, h, h0 => by
    simp at h
    have hd := dg_bd h.1
    have := fold_bd t (n * 10 + dg c) (by simpa using h.2) (by omega)
    simp only [List.foldl_cons]
    omega
theorem val_nonneg {l : List UInt8} (h : l.all isD = true) : 0 ≤ val l := by
  have := fold_bd l 0 h (Int.le_refl _)
  exact this
theorem all_snoc {l : List UInt8} {c : UInt8} : (l ++ [c]).all isD = true ↔ l.all isD = true ∧ isD c = true := by simp
theorem fold_pow : ∀ (l : List UInt8) (n : Int), l.all isD = true → 1 ≤ n → n * (10 : Int) ^ l.length ≤ l.foldl (fun n c => n * 10 + dg c) n ∧ l.foldl (fun n c => n * 10 + dg c) n < (n + 1) * (10 : Int) ^ l.length
  | [], n, _, _ => by simp; omega
  | c :: t, n, h, h0 => by
    simp at h
    have hd := dg_bd h.1
    obtain ⟨h1, h2⟩ := fold_pow t (n * 10 + dg c) (by simpa using h.2) (by omega)
    simp only [List.foldl_cons, List.length_cons]
    have hp : (0 : Int) ≤ (10 : Int) ^ t.length := Int.pow_nonneg (by decide)
    have e1 : n * (10 : Int) ^ (t.length + 1) = (n * 10) * (10 : Int) ^ t.length := by rw [Int.pow_succ, Int.mul_comm ((10 : Int) ^ t.length) 10, ← Int.mul_assoc]
    have e2 : (n + 1) * (10 : Int) ^ (t.length + 1) = ((n + 1) * 10) * (10 : Int) ^ t.length := by rw [Int.pow_succ, Int.mul_comm ((10 : Int) ^ t.length) 10, ← Int.mul_assoc]
    have m1 : (n * 10) * (10 : Int) ^ t.length ≤ (n * 10 + dg c) * (10 : Int) ^ t.length := Int.mul_le_mul_of_nonneg_right (by omega) hp
    have m2 : (n * 10 + dg c + 1) * (10 : Int) ^ t.length ≤ ((n + 1) * 10) * (10 : Int) ^ t.length := Int.mul_le_mul_of_nonneg_right (by omega) hp
    rw [e1, e2]
    omega
/-- Nine digits at most, if no nought is ahead: just the numbers up to 999999999. -/
theorem val_nine {l : List UInt8} (h : l.all isD = true) (hl : l ≠ []) (h0 : l.head? ≠ some 48) : (val l ≤ 999999999 ↔ l.length ≤ 9) ∧ 1 ≤ val l := by
  cases l with
  | nil => exact absurd rfl hl
  | cons c t =>
    simp at h h0
    have hd := dg_bd h.1
    have h1 : 1 ≤ dg c := by
      have : dg c ≠ 0 := fun e => h0 (by unfold dg at e; exact UInt8.toNat_inj.1 (by simp; omega))
      omega
    obtain ⟨a, b⟩ := fold_pow t (dg c) (by simpa using h.2) h1
    have e : val (c :: t) = t.foldl (fun n c => n * 10 + dg c) (dg c) := by simp [val]
    rw [e]
    have hp1 : (1 : Int) ≤ (10 : Int) ^ t.length := by
      have := Int.pow_pos (n := 10) (m := t.length) (by decide)
      omega
    have hf := fold_bd t (dg c) (by simpa using h.2) (by omega)
    refine ⟨⟨fun hv => ?_, fun hv => ?_⟩, by omega⟩
    · by_cases hlen : t.length ≤ 8
      · simp; omega
      · exfalso
        have hp : (10 : Int) ^ 9 ≤ (10 : Int) ^ t.length := by
          obtain ⟨k, hk⟩ : ∃ k, t.length = 9 + k := ⟨t.length - 9, by omega⟩
          rw [hk, Int.pow_add]
          have : (1 : Int) ≤ (10 : Int) ^ k := by
            have := Int.pow_pos (n := 10) (m := k) (by decide)
            omega
          have h9 : (0 : Int) ≤ (10 : Int) ^ 9 := by decide
          have := Int.mul_le_mul_of_nonneg_left this h9
          omega
        have : 1 * (10 : Int) ^ t.length ≤ dg c * (10 : Int) ^ t.length := Int.mul_le_mul_of_nonneg_right h1 (by omega)
        have e9 : (10 : Int) ^ 9 = 1000000000 := by decide
        omega
    · simp at hv
      have hp : (10 : Int) ^ t.length ≤ (10 : Int) ^ 8 := by
        obtain ⟨k, hk⟩ : ∃ k, 8 = t.length + k := ⟨8 - t.length, by omega⟩
        rw [hk, Int.pow_add]
        have : (1 : Int) ≤ (10 : Int) ^ k := by
          have := Int.pow_pos (n := 10) (m := k) (by decide)
          omega
        have := Int.mul_le_mul_of_nonneg_left this (by omega : (0 : Int) ≤ (10 : Int) ^ t.length)
        omega
      have : (dg c + 1) * (10 : Int) ^ t.length ≤ 10 * (10 : Int) ^ t.length := Int.mul_le_mul_of_nonneg_right (by omega) (by omega)
      have e8 : (10 : Int) ^ 8 = 100000000 := by decide
      omega

/-- A word that no sign behind it mends. -/
theorem snums_dead : ∀ (l : List UInt8) (out : List Int) (cur : List UInt8), (∀ x, num1 (cur ++ x) = none) → snums l out cur = none
  | [], out, cur, h => by
    have := h []
    simp at this
    simp [snums, this]
  | c :: t, out, cur, h => by
    unfold snums
    by_cases hc : c = 32
    · have := h []
      simp at this
      rw [if_pos hc, this]
    · rw [if_neg hc]
      exact snums_dead t out (cur ++ [c]) (fun x => by rw [List.append_assoc]; exact h _)
theorem snums_pre : ∀ (l : List UInt8) (out : List Int) (cur : List UInt8) (ns : List Int), snums l out cur = some ns → out <+: ns
  | [], out, cur, ns, h => by
    simp [snums] at h
    obtain ⟨n, _, rfl⟩ := h
    exact ⟨[n], rfl⟩
  | c :: t, out, cur, ns, h => by
    unfold snums at h
    by_cases hc : c = 32
    · rw [if_pos hc] at h
      cases hn : num1 cur with
      | none => rw [hn] at h; cases h
      | some n =>
        rw [hn] at h
        have := snums_pre t (out ++ [n]) [] ns h
        exact (List.prefix_append out [n]).trans this
    · rw [if_neg hc] at h
      exact snums_pre t out (cur ++ [c]) ns h
/-- A number behind a sign is below nought. -/
theorem numD_neg {d : List UInt8} {n : Int} (h : numD true d = some n) : n < 0 := by
  unfold numD at h
  split at h
  · cases h
  rename_i h1
  split at h
  · cases h
  rename_i h2
  split at h
  · cases h
  rename_i h3
  simp at h
  have hall : d.all isD = true := by
    cases hh : d.all isD with
    | true => rfl
    | false => exact absurd hh h2
  have := (val_nine hall (by rintro rfl; simp at h1) (fun e => h3 ⟨e, Or.inl rfl⟩)).2
  omega
theorem snums_neg : ∀ (l : List UInt8) (out : List Int) (d : List UInt8) (ns : List Int), snums l out (45 :: d) = some ns → ∃ x, x ∈ ns.drop out.length ∧ x < 0
  | [], out, d, ns, h => by
    simp [snums, num1] at h
    obtain ⟨n, hn, rfl⟩ := h
    exact ⟨n, by simp, numD_neg hn⟩
  | c :: t, out, d, ns, h => by
    unfold snums at h
    by_cases hc : c = 32
    · rw [if_pos hc] at h
      cases hn : num1 (45 :: d) with
      | none => rw [hn] at h; cases h
      | some n =>
        rw [hn] at h
        obtain ⟨y, rfl⟩ := snums_pre t (out ++ [n]) [] ns h
        simp [num1] at hn
        exact ⟨n, by simp, numD_neg hn⟩
    · rw [if_neg hc] at h
      exact snums_neg t out (d ++ [c]) ns (by simpa using h)
/-- What the program wants of the numbers that are new: not below nought, and thirty at most in all. -/
def Fine (k : Nat) (ns : List Int) : Prop := (∀ x ∈ ns.drop k, 0 ≤ x) ∧ ns.length ≤ 30
theorem fine_snoc {out : List Int} {n : Int} {ns : List Int} (hp : (out ++ [n]) <+: ns) (h0 : 0 ≤ n) : Fine out.length ns ↔ Fine (out ++ [n]).length ns := by
  obtain ⟨y, rfl⟩ := hp
  unfold Fine
  simp
  intro _ _
  exact h0
theorem digit_word {cur : List UInt8} (hne : cur ≠ []) (hall : cur.all isD = true) : cur.head? ≠ some 45 := by
  cases cur with
  | nil => exact absurd rfl hne
  | cons c t =>
    simp at hall ⊢
    exact (isD_ne hall.1).2
theorem num1_word {cur : List UInt8} {n : Int} (hne : cur ≠ []) (hall : cur.all isD = true) (h0 : cur.head? ≠ some 48) (hv : val cur = n) (hm : n ≤ 999999999) : num1 cur = some n := by
  have hl := (val_nine hall hne h0).1.1 (by omega)
  have hpos : cur.length ≠ 0 := by simpa using hne
  unfold num1
  rw [if_neg (digit_word hne hall)]
  unfold numD
  rw [if_neg (by omega), if_neg (by simp [hall]), if_neg (fun e => h0 e.1)]
  simp [hv]
theorem dead_long {cur : List UInt8} (hne : cur ≠ []) (h45 : cur.head? ≠ some 45) (hl : 9 < cur.length) (x : List UInt8) : num1 (cur ++ x) = none := by
  unfold num1
  rw [if_neg (by cases cur with | nil => exact absurd rfl hne | cons c t => simpa using h45)]
  unfold numD
  rw [if_pos (Or.inr (by simp; omega))]
theorem dead_sign {cur : List UInt8} {c : UInt8} (hc : isD c = false) (h45 : (cur ++ [c]).head? ≠ some 45) (x : List UInt8) : num1 ((cur ++ [c]) ++ x) = none := by
  unfold num1
  rw [if_neg (by cases cur <;> simpa using h45)]
  unfold numD
  split
  · rfl
  rw [if_pos (by simp [hc])]
theorem dead_nought {d : List UInt8} (hd : d ≠ []) (x : List UInt8) : num1 ((48 :: d) ++ x) = none := by
  unfold num1
  rw [if_neg (by simp)]
  unfold numD
  split
  · rfl
  split
  · rfl
  rw [if_pos ⟨by simp, Or.inr (by cases d with | nil => exact absurd rfl hd | cons c t => simp)⟩]
theorem num1_nought : num1 [48] = some 0 := by decide
theorem num1_nil : num1 [] = none := by decide

theorem nums_same : ∀ (l : List UInt8),
    (∀ out ns, out.length ≤ 30 → (inums l (.ahead out) = some ns ↔ snums l out [] = some ns ∧ Fine out.length ns)) ∧
    (∀ out n cur ns, out.length < 30 → cur ≠ [] → cur.all isD = true → cur.head? ≠ some 48 → val cur = n → n ≤ 999999999 → (inums l (.within n out) = some ns ↔ snums l out cur = some ns ∧ Fine out.length ns)) ∧
    (∀ out ns, out.length < 30 → (inums l (.behind (out ++ [0])) = some ns ↔ snums l out [48] = some ns ∧ Fine out.length ns))
  | [] => by
    refine ⟨fun out ns _ => ?_, fun out n cur ns ho hne hall h0 hv hm => ?_, fun out ns ho => ?_⟩
    · simp [inums, snums, num1_nil]
    · simp only [inums, snums, num1_word hne hall h0 hv hm, Option.map_some, Option.some.injEq]
      have := val_nonneg hall
      exact ⟨fun e => ⟨e, by subst e; exact ⟨by simp; omega, by simp; omega⟩⟩, fun e => e.1⟩
    · simp only [inums, snums, num1_nought, Option.map_some, Option.some.injEq]
      exact ⟨fun e => ⟨e, by subst e; exact ⟨by simp, by simp; omega⟩⟩, fun e => e.1⟩
  | c :: t => by
    obtain ⟨iA, iW, iB⟩ := nums_same t
    refine ⟨fun out ns ho => ?_, fun out n cur ns ho hne hall h0 hv hm => ?_, fun out ns ho => ?_⟩
    · have hs : ∀ h32 : c ≠ 32, snums (c :: t) out [] = snums t out [c] := fun h32 => by simp [snums, h32]
      by_cases h30 : out.length = 30
      · have hL : inums (c :: t) (.ahead out) = none := by simp [inums, h30]
        rw [hL]
        refine ⟨fun h => (by cases h), fun ⟨h1, h2⟩ => ?_⟩
        exfalso
        have hlong : ∀ (l : List UInt8) (cur : List UInt8), snums l out cur = some ns → out.length < ns.length := by
          intro l
          induction l with
          | nil =>
            intro cur h
            simp [snums] at h
            obtain ⟨n, _, rfl⟩ := h
            simp
          | cons d u ih =>
            intro cur h
            unfold snums at h
            split at h
            · cases hn : num1 cur with
              | none => rw [hn] at h; cases h
              | some n =>
                rw [hn] at h
                have := (snums_pre u (out ++ [n]) [] ns h).length_le
                simp at this
                omega
            · exact ih _ h
        have := hlong _ _ h1
        have := h2.2
        omega
      by_cases h48 : c = 48
      · subst h48
        rw [hs (by decide)]
        have hL : inums (48 :: t) (.ahead out) = inums t (.behind (out ++ [0])) := by simp [inums, h30]
        rw [hL]
        exact iB out ns (by omega)
      cases hd : isD c with
      | true =>
        have hb := dg_bd hd
        rw [hs (isD_ne hd).1]
        have hL : inums (c :: t) (.ahead out) = inums t (.within (dg c) out) := by simp [inums, h30, h48, hd]
        rw [hL]
        exact iW out (dg c) [c] ns (by omega) (by simp) (by simp [hd]) (by simpa using h48) (by simp [val]) (by omega)
      | false =>
        have hL : inums (c :: t) (.ahead out) = none := by simp [inums, h30, h48, hd]
        rw [hL]
        refine ⟨fun h => (by cases h), fun ⟨h1, h2⟩ => ?_⟩
        exfalso
        by_cases h32 : c = 32
        · subst h32
          simp [snums, num1_nil] at h1
        rw [hs h32] at h1
        by_cases h45 : c = 45
        · subst h45
          obtain ⟨x, hx, hx0⟩ := snums_neg t out [] ns h1
          have := h2.1 x hx
          omega
        · rw [snums_dead t out [c] (fun x => dead_sign (cur := []) hd (by simpa using h45) x)] at h1
          cases h1
    · cases hd : isD c with
      | true =>
        have hb := dg_bd hd
        have hall' : (cur ++ [c]).all isD = true := all_snoc.2 ⟨hall, hd⟩
        have hne' : cur ++ [c] ≠ [] := by simp
        have h0' : (cur ++ [c]).head? ≠ some 48 := by cases cur with | nil => exact absurd rfl hne | cons d u => simpa using h0
        have hv' : val (cur ++ [c]) = 10 * n + dg c := by rw [val_snoc, hv]; omega
        have hsn : snums (c :: t) out cur = snums t out (cur ++ [c]) := by simp [snums, (isD_ne hd).1]
        rw [hsn]
        by_cases hbig : 999999999 < 10 * n + dg c
        · have hL : inums (c :: t) (.within n out) = none := by simp [inums, hd, hbig]
          rw [hL]
          refine ⟨fun h => (by cases h), fun ⟨h1, _⟩ => ?_⟩
          have hlen : 9 < (cur ++ [c]).length := by
            have := (val_nine hall' hne' h0').1
            rw [hv'] at this
            omega
          rw [snums_dead t out _ (dead_long hne' (digit_word hne' hall') hlen)] at h1
          cases h1
        · have hL : inums (c :: t) (.within n out) = inums t (.within (10 * n + dg c) out) := by simp [inums, hd, hbig]
          rw [hL]
          exact iW out (10 * n + dg c) (cur ++ [c]) ns ho hne' hall' h0' hv' (by omega)
      | false =>
        by_cases h32 : c = 32
        · subst h32
          have hL : inums (32 :: t) (.within n out) = inums t (.ahead (out ++ [n])) := by simp [inums, hd]
          have hsn : snums (32 :: t) out cur = snums t (out ++ [n]) [] := by simp [snums, num1_word hne hall h0 hv hm]
          rw [hL, hsn, iA (out ++ [n]) ns (by simp; omega)]
          have hn0 : 0 ≤ n := by rw [← hv]; exact val_nonneg hall
          exact ⟨fun ⟨a, b⟩ => ⟨a, (fine_snoc (snums_pre _ _ _ _ a) hn0).2 b⟩, fun ⟨a, b⟩ => ⟨a, (fine_snoc (snums_pre _ _ _ _ a) hn0).1 b⟩⟩
        · have hL : inums (c :: t) (.within n out) = none := by simp [inums, hd, h32]
          have hsn : snums (c :: t) out cur = snums t out (cur ++ [c]) := by simp [snums, h32]
          rw [hL, hsn, snums_dead t out _ (dead_sign hd (by cases cur with | nil => exact absurd rfl hne | cons d u => simpa using digit_word hne hall))]
          simp
    · by_cases h32 : c = 32
      · subst h32
        have hL : inums (32 :: t) (.behind (out ++ [0])) = inums t (.ahead (out ++ [0])) := by simp [inums]
        have hsn : snums (32 :: t) out [48] = snums t (out ++ [0]) [] := by simp [snums, num1_nought]
        rw [hL, hsn, iA (out ++ [0]) ns (by simp; omega)]
        exact ⟨fun ⟨a, b⟩ => ⟨a, (fine_snoc (snums_pre _ _ _ _ a) (Int.le_refl _)).2 b⟩, fun ⟨a, b⟩ => ⟨a, (fine_snoc (snums_pre _ _ _ _ a) (Int.le_refl _)).1 b⟩⟩
      · have hL : inums (c :: t) (.behind (out ++ [0])) = none := by simp [inums, h32]
        have hsn : snums (c :: t) out [48] = snums t out [48, c] := by simp [snums, h32]
        rw [hL, hsn, snums_dead t out [48, c] (fun x => dead_nought (d := [c]) (by simp) x)]
        simp

end Go.Proofs.YtcmeppjfjledfaaDoor

/-
  A map's text, plainly: the program's number of a word is the document's.
-/
set_option linter.unusedVariables false
set_option linter.unusedSimpArgs false
namespace Go.Proofs.YtcmeppjfjledfaaDoor
open Go.Lib (decDigits itoa parseIntB parseUintB parseUintM)

theorem dec_ten {u : Nat} (h : 10 ≤ u) : decDigits u = decDigits (u / 10) ++ [UInt8.ofNat (48 + u % 10)] := by
  rw [decDigits, dif_neg (by omega)]
theorem dec_one {u : Nat} (h : u < 10) : decDigits u = [UInt8.ofNat (48 + u)] := by
  rw [decDigits, dif_pos h]
theorem head_app {l t : List UInt8} (h : l ≠ []) : (l ++ t).head? = l.head? := by
  cases l with
  | nil => exact absurd rfl h
  | cons c r => rfl
theorem ofD {d : Nat} (h : d < 10) : (UInt8.ofNat (48 + d)).toNat = 48 + d := by simp; omega
theorem isD_of {d : Nat} (h : d < 10) : isD (UInt8.ofNat (48 + d)) = true := by unfold isD; rw [ofD h]; simp; omega
theorem dg_of {d : Nat} (h : d < 10) : dg (UInt8.ofNat (48 + d)) = d := by unfold dg; rw [ofD h]; omega
theorem dec_all (u : Nat) : (decDigits u).all isD = true ∧ decDigits u ≠ [] ∧ val (decDigits u) = u ∧ ((decDigits u).head? = some 48 ↔ u = 0) := by
  induction u using Nat.strongRecOn with
  | _ u ih =>
    by_cases h : u < 10
    · rw [dec_one h]
      refine ⟨by rw [List.all_cons, isD_of h]; rfl, by simp, ?_, ?_⟩
      · show (0 : Int) * 10 + dg (UInt8.ofNat (48 + u)) = u
        rw [dg_of h]; omega
      simp only [List.head?_cons, Option.some.injEq]
      constructor
      · intro e
        have e1 := congrArg UInt8.toNat e
        rw [ofD h] at e1
        have : (48 : UInt8).toNat = 48 := rfl
        omega
      · rintro rfl; rfl
    · have h10 : 10 ≤ u := by omega
      obtain ⟨i1, i2, i3, i4⟩ := ih (u / 10) (by omega)
      have hm : u % 10 < 10 := Nat.mod_lt _ (by omega)
      rw [dec_ten h10]
      refine ⟨all_snoc.2 ⟨i1, isD_of hm⟩, by simp, ?_, ?_⟩
      · rw [val_snoc, i3, dg_of hm]
        omega
      · rw [head_app i2, i4]
        omega
theorem dec_val : ∀ (k : Nat) (d : List UInt8), d.length = k → d.all isD = true → d ≠ [] → (d.head? = some 48 → d.length = 1) → decDigits (val d).toNat = d := by
  intro k
  induction k with
  | zero => intro d h _ hne _; exact absurd (List.length_eq_zero_iff.1 h) hne
  | succ k ih =>
    intro d hk hall hne h0
    obtain ⟨t, c, rfl⟩ : ∃ t c, d = t ++ [c] := ⟨d.dropLast, d.getLast hne, (List.dropLast_concat_getLast hne).symm⟩
    rw [all_snoc] at hall
    have hb := dg_bd hall.2
    have hc : UInt8.ofNat (48 + (dg c).toNat) = c := by
      have h1 : (dg c).toNat = c.toNat - 48 := by unfold dg; omega
      have h2 := hall.2
      unfold isD at h2
      simp at h2
      rw [h1, show 48 + (c.toNat - 48) = c.toNat by omega]
      exact UInt8.ofNat_toNat
    have hv := val_snoc t c
    by_cases ht : t = []
    · subst ht
      have e : val ([] ++ [c]) = dg c := by simp [val]
      rw [e, dec_one (by omega), hc]
      rfl
    · have hh : t.head? ≠ some 48 := by
        intro e
        have : (t ++ [c]).head? = some 48 := by rw [head_app ht]; exact e
        have := h0 this
        simp at this
        exact ht this
      have hn := val_nine hall.1 ht hh
      have hz := ih t (by simp at hk; omega) hall.1 ht (fun e => absurd e hh)
      have e1 : (val (t ++ [c])).toNat / 10 = (val t).toNat := by rw [hv]; omega
      have e2 : (val (t ++ [c])).toNat % 10 = (dg c).toNat := by rw [hv]; omega
      rw [dec_ten (by rw [hv]; omega), e1, e2, hz, hc]
theorem isD45 {d : List UInt8} (h : d.all isD = true) : d.head? ≠ some 45 := by
  cases d with
  | nil => simp
  | cons c t =>
    simp only [List.head?_cons, ne_eq, Option.some.injEq]
    rintro rfl
    simp [isD] at h
theorem dgt_len {u : Nat} (h : u ≤ 999999999) : (decDigits u).length ≤ 9 := by
  obtain ⟨i1, i2, i3, i4⟩ := dec_all u
  by_cases h0 : u = 0
  · subst h0; rw [dec_one (by omega)]; simp
  · exact ((val_nine i1 i2 (fun e => h0 (i4.1 e))).1).1 (by rw [i3]; omega)
theorem num1_itoa {v : Int} (h0 : -999999999 ≤ v) (h1 : v ≤ 999999999) : num1 (itoa v) = some v := by
  by_cases hv : v < 0
  · obtain ⟨u, rfl⟩ : ∃ u : Nat, v = -(u : Int) := ⟨v.natAbs, by omega⟩
    obtain ⟨i1, i2, i3, i4⟩ := dec_all u
    rw [Lib.itoa_neg u (by omega)]
    have hl := dgt_len (u := u) (by omega)
    have hp : 0 < (decDigits u).length := List.length_pos_iff.2 i2
    unfold num1
    rw [if_pos (by simp)]
    simp only [List.tail_cons]
    unfold numD
    rw [if_neg (by omega), if_neg (by rw [i1]; simp), if_neg (by intro e; have := i4.1 e.1; omega), i3]
    rfl
  · obtain ⟨u, rfl⟩ : ∃ u : Nat, v = (u : Int) := ⟨v.toNat, by omega⟩
    obtain ⟨i1, i2, i3, i4⟩ := dec_all u
    rw [Lib.itoa_nonneg]
    have hl := dgt_len (u := u) (by omega)
    have hp : 0 < (decDigits u).length := List.length_pos_iff.2 i2
    unfold num1
    rw [if_neg (isD45 i1)]
    unfold numD
    rw [if_neg (by omega), if_neg (by rw [i1]; simp), if_neg (by
      intro e
      have hu := i4.1 e.1
      subst hu
      rw [dec_one (by omega)] at e
      simp at e), i3]
    rfl
theorem itoa_num1 {l : List UInt8} {v : Int} (h : num1 l = some v) : itoa v = l ∧ -999999999 ≤ v ∧ v ≤ 999999999 := by
  have key : ∀ (neg : Bool) (d : List UInt8) (v : Int), numD neg d = some v → d.all isD = true ∧ d ≠ [] ∧ (d.head? = some 48 → d.length = 1 ∧ neg = false) ∧ v = (if neg = true then - val d else val d) ∧ d.length ≤ 9 := by
    intro neg d v h
    unfold numD at h
    split at h
    · cases h
    · next hl =>
      split at h
      · cases h
      · next ha =>
        split at h
        · cases h
        · next hz =>
          injection h with h
          have hne : d ≠ [] := by rintro rfl; exact hl (.inl rfl)
          refine ⟨by simpa using ha, hne, fun e => ?_, h.symm, by omega⟩
          have hp := List.length_pos_iff.2 hne
          constructor
          · by_cases c : 1 < d.length
            · exact absurd ⟨e, .inr c⟩ hz
            · omega
          · cases neg with
            | false => rfl
            | true => exact absurd ⟨e, .inl rfl⟩ hz
  have top : ∀ d : List UInt8, d.all isD = true → d ≠ [] → (d.head? = some 48 → d.length = 1) → d.length ≤ 9 → 0 ≤ val d ∧ val d ≤ 999999999 := by
    intro d h1 h2 h3 h4
    refine ⟨val_nonneg h1, ?_⟩
    by_cases h0 : d.head? = some 48
    · have := h3 h0
      obtain ⟨c, rfl⟩ := List.length_eq_one_iff.1 this
      simp at h1
      have := dg_bd h1
      simp [val]
      omega
    · exact ((val_nine h1 h2 h0).1).2 h4
  unfold num1 at h
  split at h
  · next h45 =>
    obtain ⟨k1, k2, k3, k4, k5⟩ := key _ _ _ h
    obtain ⟨t1, t2⟩ := top _ k1 k2 (fun e => (k3 e).1) k5
    have hd := dec_val _ _ rfl k1 k2 (fun e => (k3 e).1)
    have hpos : 1 ≤ val l.tail := by
      by_cases h0 : l.tail.head? = some 48
      · have := (k3 h0).2; cases this
      · exact (val_nine k1 k2 h0).2
    simp only [if_pos] at k4
    obtain ⟨u, hu⟩ : ∃ u : Nat, val l.tail = (u : Int) := ⟨(val l.tail).toNat, by omega⟩
    rw [hu] at k4 hpos t1 t2 hd
    subst k4
    refine ⟨?_, by omega, by omega⟩
    rw [Lib.itoa_neg u (by omega)]
    simp only [Int.toNat_natCast] at hd
    rw [hd]
    cases l with
    | nil => simp at h45
    | cons c t => simp at h45; subst h45; rfl
  · next h45 =>
    obtain ⟨k1, k2, k3, k4, k5⟩ := key _ _ _ h
    obtain ⟨t1, t2⟩ := top _ k1 k2 (fun e => (k3 e).1) k5
    have hd := dec_val _ _ rfl k1 k2 (fun e => (k3 e).1)
    simp only [Bool.false_eq_true, if_false] at k4
    obtain ⟨u, hu⟩ : ∃ u : Nat, val l = (u : Int) := ⟨(val l).toNat, by omega⟩
    rw [hu] at k4 t1 t2 hd
    subst k4
    refine ⟨?_, by omega, by omega⟩
    rw [Lib.itoa_nonneg]
    simpa using hd
theorem parseU : ∀ (d : List UInt8) (acc : Nat) (M : Nat), d.all isD = true → d.foldl (fun n c => n * 10 + dg c) (acc : Int) ≤ 999999999 → 999999999 ≤ M → parseUintM M acc d = .ok (d.foldl (fun n c => n * 10 + dg c) (acc : Int)).toNat
  | [], acc, M, _, _, _ => by simp [parseUintM]
  | c :: t, acc, M, ha, hv, hM => by
    simp only [List.all_cons, Bool.and_eq_true] at ha
    have hb := dg_bd ha.1
    have h2 := ha.1
    unfold isD at h2
    simp at h2
    have e : (acc : Int) * 10 + dg c = ((acc * 10 + (c.toNat - 48) : Nat) : Int) := by unfold dg; omega
    simp only [List.foldl_cons] at hv ⊢
    have hge := fold_bd t ((acc : Int) * 10 + dg c) ha.2 (by omega)
    rw [e] at hv hge ⊢
    rw [parseUintM, if_pos ⟨h2.1, h2.2⟩, if_neg (by omega), if_neg (by omega)]
    exact parseU t _ M ha.2 hv hM
theorem parse_itoa {v : Int} (h0 : -999999999 ≤ v) (h1 : v ≤ 999999999) : parseIntB 64 (itoa v) = .ok v := by
  have hU : ∀ u : Nat, u ≤ 999999999 → parseUintB 64 (decDigits u) = .ok u := by
    intro u hu
    obtain ⟨i1, i2, i3, i4⟩ := dec_all u
    unfold parseUintB
    rw [if_neg i2]
    have hv : (decDigits u).foldl (fun n c => n * 10 + dg c) ((0 : Nat) : Int) = u := i3
    rw [parseU _ 0 _ i1 (by rw [hv]; omega) (by decide), hv]
    simp
  by_cases hv : v < 0
  · obtain ⟨u, rfl⟩ : ∃ u : Nat, v = -(u : Int) := ⟨v.natAbs, by omega⟩
    rw [Lib.itoa_neg u (by omega)]
    unfold parseIntB
    simp only [show (45 : UInt8).toNat = 45 from rfl, or_true, if_true, hU u (by omega)]
    simp
    omega
  · obtain ⟨u, rfl⟩ : ∃ u : Nat, v = (u : Int) := ⟨v.toNat, by omega⟩
    rw [Lib.itoa_nonneg]
    obtain ⟨i1, i2, i3, i4⟩ := dec_all u
    have hu := hU u (by omega)
    cases hd : decDigits u with
    | nil => exact absurd hd i2
    | cons c t =>
      rw [hd] at i1 hu
      simp only [List.all_cons, Bool.and_eq_true] at i1
      have h2 := i1.1
      unfold isD at h2
      simp at h2
      unfold parseIntB
      simp only [show ¬ (c.toNat = 43 ∨ c.toNat = 45) by omega, if_false, hu]
      simp [show ¬ c.toNat = 45 by omega]
      omega
/-- The program's number of a word: what ParseInt takes, small enough, and written as it would be shown. -/
def rdNum (l : List UInt8) : Option Int := match parseIntB 64 l with | .ok v => if v < -999999999 ∨ 999999999 < v ∨ itoa v ≠ l then none else some v | _ => none
theorem rdNum_is (l : List UInt8) : rdNum l = num1 l := by
  cases h : num1 l with
  | some v =>
    obtain ⟨e, b0, b1⟩ := itoa_num1 h
    have hp := parse_itoa b0 b1
    rw [e] at hp
    unfold rdNum
    rw [hp]
    simp only
    rw [if_neg]
    rintro (c | c | c)
    · omega
    · omega
    · exact c e
  | none =>
    unfold rdNum
    split
    · next v hv =>
      by_cases c : v < -999999999 ∨ 999999999 < v ∨ itoa v ≠ l
      · rw [if_pos c]
      · exfalso
        have h1 : itoa v = l := by
          by_cases e : itoa v = l
          · exact e
          · exact absurd (.inr (.inr e)) c
        have := num1_itoa (v := v) (by omega) (by omega)
        rw [h1, h] at this
        cases this
    · rfl

/-- A sign ahead of the first word. -/
def onHead (c : UInt8) : List (List UInt8) → List (List UInt8)
  | [] => []
  | h :: r => (c :: h) :: r
def onFirst (cur : List UInt8) : List (List UInt8) → List (List UInt8)
  | [] => []
  | h :: r => (cur ++ h) :: r
/-- A text's words, between its blanks. -/
def gws : List UInt8 → List (List UInt8)
  | [] => [[]]
  | c :: t => if c = 32 then [] :: gws t else onHead c (gws t)
theorem gws_ne : ∀ l, gws l ≠ []
  | [] => by simp [gws]
  | c :: t => by
    unfold gws
    split
    · simp
    · have := gws_ne t
      cases h : gws t with
      | nil => exact absurd h this
      | cons a r => simp [onHead]
theorem onFirst_onHead (cur : List UInt8) (c : UInt8) (L : List (List UInt8)) : onFirst cur (onHead c L) = onFirst (cur ++ [c]) L := by cases L <;> simp [onHead, onFirst]
theorem onFirst_nil (L : List (List UInt8)) : onFirst [] L = L := by cases L <;> simp [onFirst]
theorem snums_words : ∀ (l : List UInt8) (out : List Int) (cur : List UInt8), snums l out cur = ((onFirst cur (gws l)).mapM num1).map (out ++ ·)
  | [], out, cur => by
    simp only [snums, gws, onFirst, List.append_nil, List.mapM_cons, List.mapM_nil]
    cases h : num1 cur <;> simp
  | c :: t, out, cur => by
    unfold snums gws
    split
    · simp only [onFirst, List.append_nil, List.mapM_cons]
      cases num1 cur with
      | none => simp
      | some n =>
        simp only
        rw [snums_words t (out ++ [n]) [], onFirst_nil]
        cases (gws t).mapM num1 <;> simp
    · rw [snums_words t out (cur ++ [c]), onFirst_onHead]
theorem onHead_len (c : UInt8) (L : List (List UInt8)) : (onHead c L).length = L.length := by cases L <;> simp [onHead]
theorem split_blank (k : Nat) (t : List UInt8) : Lib.splitK [32] 0 (k + 1) (32 :: t) = [] :: Lib.splitK [32] 0 k t := by
  have h : Lib.index (32 :: t) [32] = 0 := by rw [Lib.index]; simp [List.isPrefixOf]
  rw [Lib.splitK, h]
  simp
theorem split_other (k : Nat) {c : UInt8} (hc : c ≠ 32) (t : List UInt8) : Lib.splitK [32] 0 k (c :: t) = onHead c (Lib.splitK [32] 0 k t) := by
  cases k with
  | zero => rfl
  | succ k =>
    have hp : ([32] : List UInt8).isPrefixOf (c :: t) = false := by simp [List.isPrefixOf, Ne.symm hc]
    have hix : Lib.index (c :: t) [32] = if Lib.index t [32] == -1 then -1 else Lib.index t [32] + 1 := by rw [Lib.index, hp]; simp
    have hge := Lib.index_ge t [32]
    by_cases hm : Lib.index t [32] = -1
    · rw [Lib.splitK, Lib.splitK, hix, hm]
      simp [onHead]
    · obtain ⟨j, hj⟩ : ∃ j : Nat, Lib.index t [32] = j := ⟨(Lib.index t [32]).toNat, by omega⟩
      rw [hj] at hix
      have h1 : (((j : Nat) : Int) == -1) = false := beq_eq_false_iff_ne.2 (by omega)
      rw [h1] at hix
      have h2 : (((j : Int) + 1) == -1) = false := beq_eq_false_iff_ne.2 (by omega)
      have h3 : ((j : Int) + 1).toNat = j + 1 := by omega
      rw [Lib.splitK, Lib.splitK, hix, hj]
      simp [h1, h2, h3, onHead]
theorem split_words : ∀ (l : List UInt8) (k : Nat), ((gws l).length ≤ k + 1 → Lib.splitK [32] 0 k l = gws l) ∧ (k + 1 < (gws l).length → (Lib.splitK [32] 0 k l).length = k + 1)
  | [], k => by
    have : Lib.splitK [32] 0 k [] = [[]] := by cases k <;> simp [Lib.splitK, Lib.index]
    simp [gws, this]
  | c :: t, k => by
    by_cases hc : c = 32
    · subst hc
      have hw : gws (32 :: t) = [] :: gws t := by rw [gws, if_pos rfl]
      have hl := List.length_pos_iff.2 (gws_ne t)
      rw [hw]
      cases k with
      | zero =>
        refine ⟨fun h => ?_, fun _ => by simp [Lib.splitK]⟩
        simp only [List.length_cons] at h
        omega
      | succ k =>
        obtain ⟨i1, i2⟩ := split_words t k
        rw [split_blank]
        refine ⟨fun h => ?_, fun h => ?_⟩
        · rw [i1 (by simpa using h)]
        · simp [i2 (by simpa using h)]
    · have hw : gws (c :: t) = onHead c (gws t) := by rw [gws, if_neg hc]
      obtain ⟨i1, i2⟩ := split_words t k
      rw [hw, split_other k hc, onHead_len, onHead_len]
      exact ⟨fun h => by rw [i1 h], fun h => i2 h⟩
theorem gws_len : ∀ l : List UInt8, (gws l).length ≤ l.length + 1
  | [] => by simp [gws]
  | c :: t => by
    have := gws_len t
    unfold gws
    split
    · simpa using this
    · rw [onHead_len]; simp; omega
theorem mapM_len {f : List UInt8 → Option Int} : ∀ {L : List (List UInt8)} {ns : List Int}, L.mapM f = some ns → ns.length = L.length
  | [], ns, h => by simp at h; subst h; rfl
  | a :: r, ns, h => by
    simp only [List.mapM_cons] at h
    cases ha : f a with
    | none => rw [ha] at h; cases h
    | some n =>
      cases hr : r.mapM f with
      | none => rw [ha, hr] at h; cases h
      | some m =>
        rw [ha, hr] at h
        simp at h
        subst h
        simp [mapM_len hr]
/-- What the program reads: 301 words at most, one and threes. -/
def iRead (l : List UInt8) : Option (List Int) :=
  let W := Lib.splitK [32] 0 (min 302 (l.length + 1) - 1) l
  if 301 < W.length ∨ W.length % 3 ≠ 1 then none else W.mapM rdNum
/-- What the document reads. -/
def sRead (l : List UInt8) : Option (List Int) := match snums l [] [] with | some ns => if ns.length % 3 ≠ 1 then none else some ns | none => none
/-- Both read the same, but for more than 301 numbers. -/
theorem gread_same (l : List UInt8) : iRead l = (match sRead l with | some ns => if 301 < ns.length then none else some ns | none => none) := by
  have hf : rdNum = num1 := funext rdNum_is
  have hs : snums l [] [] = (gws l).mapM num1 := by rw [snums_words, onFirst_nil]; cases (gws l).mapM num1 <;> simp
  have hl := gws_len l
  have hp := List.length_pos_iff.2 (gws_ne l)
  obtain ⟨i1, i2⟩ := split_words l (min 302 (l.length + 1) - 1)
  unfold iRead sRead
  rw [hs, hf]
  simp only
  by_cases h : (gws l).length ≤ min 302 (l.length + 1) - 1 + 1
  · rw [i1 h]
    cases hm : (gws l).mapM num1 with
    | none => simp
    | some ns =>
      have hn := mapM_len hm
      rw [← hn]
      simp only
      by_cases h3 : ns.length % 3 = 1
      · by_cases h4 : 301 < ns.length
        · rw [if_pos (.inl h4), if_neg (by omega)]; simp [h4]
        · rw [if_neg (by omega), if_neg (by omega)]; simp [h4]
      · rw [if_pos (.inr h3), if_pos h3]
  · have hw := i2 (by omega)
    have h302 : min 302 (l.length + 1) - 1 + 1 = 302 := by omega
    rw [hw, h302, if_pos (.inl (by omega))]
    cases hm : (gws l).mapM num1 with
    | none => rfl
    | some ns =>
      have hn := mapM_len hm
      simp only
      by_cases h3 : ns.length % 3 = 1
      · rw [if_neg (by omega)]; simp; omega
      · rw [if_pos h3]

end Go.Proofs.YtcmeppjfjledfaaDoor

/-
  The program's number of a word, by strconv.ParseInt and strconv.FormatInt.
-/
set_option linter.unusedVariables false
set_option linter.unusedSimpArgs false
namespace Go.Proofs.YtcmeppjfjledfaaDoor
open Go.RowKit

/-- What ParseInt and FormatInt read: two errors and a table. -/
structure Vars (w : World) : Prop where
  tab : Tab w
  syn : ∃ te pe, w.cell? ⟨4, 0, none⟩ = some (.iface te pe)
  rng : ∃ te pe, w.cell? ⟨5, 0, none⟩ = some (.iface te pe)
theorem Vars.below {w w' : World} (h : Vars w) (hb : Below w.heap.size w w') : Vars w' :=
  ⟨h.tab.below hb (Nat.le_refl _), by obtain ⟨a, b, c⟩ := h.syn; exact ⟨a, b, keep_cell hb (Nat.le_refl _) c⟩, by obtain ⟨a, b, c⟩ := h.rng; exact ⟨a, b, keep_cell hb (Nat.le_refl _) c⟩⟩
theorem showNum_all (n : Int) (h0 : -9223372036854775808 ≤ n) (h1 : n ≤ 9223372036854775807) (w : World) (ht : Tab w) :
    Calls Tryd.prog 14 #[.int .i64 n] w fun e w' => e = .returned (txt (Lib.itoa n)) ∧ Below w.heap.size w w' := by
  go_enter Tryd.func14, Tryd.ntmps14
  go_wp2_with fail
  refine (fmtInt_any n h0 h1 _ ht).mono ?_
  rintro e w' ⟨rfl, hb⟩
  go_wp2
  go_ret
  exact ⟨rfl, hb⟩
/-- A number that is answered, and whether it is one. -/
def NumAns (e : Ending) (r : Option Int) : Prop := e = .returned (.tuple #[.int .i64 (r.getD 0), .bool r.isSome])
set_option maxHeartbeats 1000000 in
theorem readNumber_any (s : ByteArray) (hs : s.size ≤ 1048576) (w : World) (hV : Vars w) :
    Calls Tryd.prog 39 #[.string s] w fun e w' => NumAns e (num1 s.data.toList) ∧ Below w.heap.size w w' := by
  obtain ⟨te, pe, hsyn⟩ := hV.syn
  obtain ⟨tr, pr, hrng⟩ := hV.rng
  obtain ⟨r, HR⟩ : ∃ r, Hid (r = rdNum s.data.toList) := ⟨_, rfl⟩
  rw [← rdNum_is, ← HR.out]
  cases hp : Lib.parseIntB 64 s.data.toList with
  | «syntax» =>
    have hr : rdNum s.data.toList = none := by unfold rdNum; rw [hp]
    have HE : Hid (r = none) := HR.out.trans hr
    clear hr HR
    go_enter Tryd.func39, Tryd.ntmps39
    go_wp2_with fail
    refine (Tryd.strconv_ParseInt_10_at64_syntax s (by omega) hp (.iface te pe) _ hsyn (.inr ⟨_, _, rfl⟩)).mono ?_
    rintro e w1 ⟨N, rfl, hN, hc, hb⟩
    go_wp2
    exact bodyPost_ret (v := .tuple #[.int .i64 0, .bool false]) (by simp [results, Tryd.results39, go_sem]) rfl ⟨by rw [HE.out]; rfl, hb⟩
  | range =>
    have hr : rdNum s.data.toList = none := by unfold rdNum; rw [hp]
    have HE : Hid (r = none) := HR.out.trans hr
    clear hr HR
    go_enter Tryd.func39, Tryd.ntmps39
    go_wp2_with fail
    refine (Tryd.strconv_ParseInt_10_at64_range s (by omega) hp (.iface tr pr) _ hrng (.inr ⟨_, _, rfl⟩)).mono ?_
    rintro e w1 ⟨N, rfl, hN, hc, hb⟩
    go_wp2
    exact bodyPost_ret (v := .tuple #[.int .i64 0, .bool false]) (by simp [results, Tryd.results39, go_sem]) rfl ⟨by rw [HE.out]; rfl, hb⟩
  | ok v =>
    have hr : rdNum s.data.toList = if v < -999999999 ∨ 999999999 < v ∨ Lib.itoa v ≠ s.data.toList then none else some v := by unfold rdNum; rw [hp]
    have HR2 : Hid (r = if v < -999999999 ∨ 999999999 < v ∨ Lib.itoa v ≠ s.data.toList then none else some v) := HR.out.trans hr
    clear hr HR
    go_enter Tryd.func39, Tryd.ntmps39
    go_wp2_with fail
    refine (Tryd.strconv_ParseInt_10_at64_ok s (by omega) v hp _).mono ?_
    rintro e w1 ⟨rfl, hw⟩
    have hb : Below w.heap.size w w1 := by
      rcases hw with rfl | ⟨t, rfl⟩
      · exact Below.refl _ _
      · exact Lib.bytesWorld_below _ _ _
    clear hw
    by_cases h0 : v < -999999999
    · have HE : Hid (r = none) := HR2.out.trans (if_pos (.inl h0))
      go_wp2
      exact bodyPost_ret (v := .tuple #[.int .i64 0, .bool false]) (by simp [results, Tryd.results39, go_sem]) rfl ⟨by rw [HE.out]; rfl, hb⟩
    by_cases h1 : 999999999 < v
    · have HE : Hid (r = none) := HR2.out.trans (if_pos (.inr (.inl h1)))
      go_wp2
      exact bodyPost_ret (v := .tuple #[.int .i64 0, .bool false]) (by simp [results, Tryd.results39, go_sem]) rfl ⟨by rw [HE.out]; rfl, hb⟩
    go_wp2_with fail
    refine (showNum_all v (by omega) (by omega) _ (hV.tab.below hb (Nat.le_refl _))).mono ?_
    rintro e w2 ⟨rfl, hb2⟩
    have hb3 := below_next hb (Nat.le_refl _) hb2
    by_cases h2 : Lib.itoa v = s.data.toList
    · have HE : Hid (r = some v) := HR2.out.trans (if_neg (fun c => c.elim (fun c => absurd c (by omega)) (fun c => c.elim (fun c => absurd c (by omega)) (fun c => c h2))))
      have h3 : (⟨(Lib.itoa v).toArray⟩ : ByteArray) = s := by rw [h2]
      unfold txt
      rw [h3]
      go_wp2
      exact bodyPost_ret (v := .tuple #[.int .i64 v, .bool true]) (by simp [results, Tryd.results39, go_sem]) rfl ⟨by rw [HE.out]; rfl, hb3⟩
    · have HE : Hid (r = none) := HR2.out.trans (if_pos (.inr (.inr h2)))
      have h4 : (Lib.itoa v == s.toList) = false := by rw [ByteArray.toList_eq]; exact beq_eq_false_iff_ne.2 h2
      go_wp2
      exact bodyPost_ret (v := .tuple #[.int .i64 0, .bool false]) (by simp [results, Tryd.results39, go_sem]) rfl ⟨by rw [HE.out]; rfl, hb3⟩

end Go.Proofs.YtcmeppjfjledfaaDoor

/-
  Lists of numbers: read behind an address, of the call's own, copied, held against each other, marked. For every list of at most 2^20 numbers.
-/
set_option linter.unusedVariables false
set_option linter.unusedSimpArgs false
namespace Go.Proofs.YtcmeppjfjledfaaDoor
open Go.RowKit
attribute [local go_sem ↓] Go.wp_at_zero Go.wp_at_succ

/-- n numbers lie behind a slice's address. -/
def IRow (w : World) (ao : Option Addr) (n : Nat) (f : Nat → Int) : Prop := ∀ k, k < n → ∃ b o, ao = some ⟨b, o, none⟩ ∧ w.cell? ⟨b, o + k, none⟩ = some (.int .i64 (f k))
theorem IRow.below {w w' : World} {B : Nat} {ao : Option Addr} {n : Nat} {f : Nat → Int} (h : IRow w ao n f) (hb : Below B w w') (hB : w.heap.size ≤ B) : IRow w' ao n f := fun k hk => by
  obtain ⟨b, o, e, c0⟩ := h k hk
  have hlt := lt_of_cell c0
  exact ⟨b, o, e, by rw [hb.cell (by simp; omega)]; exact c0⟩
theorem IRow.alloc {w : World} {ao : Option Addr} {n : Nat} {f : Nat → Int} (h : IRow w ao n f) (o : Obj) : IRow (w.alloc o) ao n f := h.below ((Below.refl w.heap.size w).alloc (Nat.le_refl _) o) (Nat.le_refl _)
theorem IRow.congr {w : World} {ao : Option Addr} {n : Nat} {f g : Nat → Int} (h : IRow w ao n f) (e : ∀ k, k < n → f k = g k) : IRow w ao n g := fun k hk => by
  obtain ⟨b, o, h1, h2⟩ := h k hk
  exact ⟨b, o, h1, by rw [h2, e k hk]⟩

/-- Block b begins with n numbers of the call's own, which may be written. -/
def IHas (w : World) (b n : Nat) (f : Nat → Int) : Prop := ∃ cur : Array Value, w.heap[b]? = some (.cells cur 2 (0, 0)) ∧ n ≤ cur.size ∧ ∀ j, j < n → cur[j]? = some (.int .i64 (f j))
theorem IHas.cell {w : World} {b n : Nat} {f : Nat → Int} (h : IHas w b n f) {j : Nat} (hj : j < n) : w.cell? ⟨b, j, none⟩ = some (.int .i64 (f j)) := by
  obtain ⟨c, hb, _, hc⟩ := h
  simp [World.cell?, hb, hc j hj]
theorem IHas.frozen {w : World} {b n : Nat} {f : Nat → Int} (h : IHas w b n f) (j : Nat) : w.frozen? ⟨b, j, none⟩ = false := by
  obtain ⟨c, hb, _, _⟩ := h
  simp [World.frozen?, hb]
theorem IHas.lt {w : World} {b n : Nat} {f : Nat → Int} (h : IHas w b n f) : b < w.heap.size := by
  obtain ⟨c, hb, _, _⟩ := h
  exact (Array.getElem?_eq_some_iff.1 hb).1
theorem IHas.of_block {w w' : World} {b n : Nat} {f : Nat → Int} (h : IHas w b n f) (e : w'.heap[b]? = w.heap[b]?) : IHas w' b n f := by
  obtain ⟨c, hb, hn, hc⟩ := h
  exact ⟨c, e.trans hb, hn, hc⟩
theorem IHas.congr {w : World} {b n : Nat} {f g : Nat → Int} (h : IHas w b n f) (e : ∀ j, j < n → f j = g j) : IHas w b n g := by
  obtain ⟨c, hb, hn, hc⟩ := h
  exact ⟨c, hb, hn, fun j hj => by rw [hc j hj, e j hj]⟩
theorem IHas.set {w : World} {b n : Nat} {f : Nat → Int} (h : IHas w b n f) (i : Nat) (v : Int) : IHas (w.setCell ⟨b, i, none⟩ (.int .i64 v)) b n (fun j => if j = i then v else f j) := by
  obtain ⟨c, hb, hn, hc⟩ := h
  refine ⟨c.setIfInBounds i (.int .i64 v), ?_, by simpa using hn, fun j hj => ?_⟩
  · simp [World.setCell, Array.getElem?_modify, hb]
  · rw [Array.getElem?_setIfInBounds]
    by_cases e : j = i
    · subst e
      simp; omega
    · rw [if_neg (fun h => e h.symm)]
      show c[j]? = some (.int .i64 (if j = i then v else f j))
      rw [if_neg e]
      exact hc j hj
theorem IHas.row {w : World} {b n : Nat} {f : Nat → Int} (h : IHas w b n f) : IRow w (some ⟨b, 0, none⟩) n f := fun k hk => ⟨b, 0, rfl, by simpa using h.cell hk⟩
theorem IHas.below {w w' : World} {b n B : Nat} {f : Nat → Int} (h : IHas w b n f) (hb : Below B w w') (hB : b < B) : IHas w' b n f := h.of_block (hb.block b hB)
theorem IHas.grown {w w' : World} {b n : Nat} {f : Nat → Int} {row : Option Nat} (h : IHas w b n f) (hg : w.grownBy w' row) (hne : some b ≠ row) : IHas w' b n f := h.of_block (hg.block b h.lt hne)
theorem IHas.of_row {w : World} {b n : Nat} {f : Nat → Int} (h : w.rowIs b 2 n (fun j => .int .i64 (f j))) : IHas w b n f := by
  obtain ⟨c, hb, hn, hc⟩ := h
  exact ⟨c, hb, by omega, hc⟩

theorem Tryd.infoInt : (Tryd.prog.info? 2).map (fun i => (i.zero, i.size, i.bytes)) = some (some (.int .i64 0), 1, 8) := by kernel_rfl
theorem make_ints (n : Nat) (hn : n ≤ 1048576) (w : World) :
    (Instr.makeSlice 45 (.int .i64 (n : Int)) (.int .i64 (n : Int))).run Tryd.prog w = .ok (.slice (some ⟨w.heap.size, 0, none⟩) n n) (w.alloc (.cells (madeCells #[.int .i64 0] n) 2)) :=
  run_make_row' 45 2 _ 8 Tryd.underlying45 Tryd.infoInt rfl .i64 .i64 n (by omega) (by omega) w
theorem made_ints (w : World) (n : Nat) : IHas (w.alloc (.cells (madeCells #[.int .i64 0] n) 2)) w.heap.size n (fun _ => 0) := IHas.of_row (World.rowIs_made w _ n _)





end Go.Proofs.YtcmeppjfjledfaaDoor

/-
  The program's numbers of words.
-/
set_option linter.unusedVariables false
set_option linter.unusedSimpArgs false
namespace Go.Proofs.YtcmeppjfjledfaaDoor
open Go.RowKit
attribute [local go_sem ↓] Go.wp_at_zero Go.wp_at_succ

/-- Texts that lie in a block. -/
def THas (w : World) (g : Nat) (L : List ByteArray) : Prop := g < w.heap.size ∧ ∀ j (h : j < L.length), w.cell? ⟨g, j, none⟩ = some (.string L[j])
theorem THas.below {w w' : World} {g : Nat} {L : List ByteArray} {B : Nat} (h : THas w g L) (hb : Below B w w') (hB : g < B) : THas w' g L := by
  have hs := hb.size
  refine ⟨?_, fun j hj => ?_⟩
  · have := h.1
    omega
  · have := h.2 j hj
    unfold World.cell? at this ⊢
    rw [hb.block g hB]
    exact this
def allN (L : List ByteArray) : Option (List Int) := (L.map (·.data.toList)).mapM num1
theorem mapM_snoc {L : List (List UInt8)} {a : List UInt8} {ns : List Int} (h : L.mapM num1 = some ns) : (L ++ [a]).mapM num1 = (num1 a).map (fun n => ns ++ [n]) := by
  rw [List.mapM_append, h]
  simp only [List.mapM_cons, List.mapM_nil]
  cases num1 a <;> rfl
theorem mapM_dead {L : List (List UInt8)} {a : List UInt8} {M : List (List UInt8)} (h : num1 a = none) : (L ++ a :: M).mapM num1 = none := by
  rw [List.mapM_append]
  cases L.mapM num1 with
  | none => rfl
  | some ns => simp [List.mapM_cons, h]
theorem allN_take {L : List ByteArray} {i : Nat} (hi : i < L.length) : allN (L.take (i + 1)) = match allN (L.take i) with | some ns => (num1 L[i].data.toList).map (fun n => ns ++ [n]) | none => none := by
  unfold allN
  rw [List.take_succ_eq_append_getElem hi, List.map_append]
  cases h : ((L.take i).map (·.data.toList)).mapM num1 with
  | none => rw [List.mapM_append, h]; rfl
  | some ns => exact mapM_snoc h
theorem allN_none {L : List ByteArray} {i : Nat} (hi : i < L.length) (h : num1 L[i].data.toList = none) : allN L = none := by
  unfold allN
  have e : L = L.take i ++ L[i] :: L.drop (i + 1) := by
    conv => lhs; rw [← List.take_append_drop i L]
    rw [List.drop_eq_getElem_cons hi]
  rw [e, List.map_append, List.map_cons]
  exact mapM_dead h
def LAns (w w' : World) (e : Ending) (L : List ByteArray) : Prop := match allN L with
  | some ns => ∃ b, e = .returned (.tuple #[.slice (some ⟨b, 0, none⟩) L.length L.length, .bool true]) ∧ w.heap.size ≤ b ∧ IHas w' b L.length (fun j => ns.getD j 0)
  | none => e = .returned (.tuple #[.slice none 0 0, .bool false])
set_option maxHeartbeats 2000000 in
theorem readNumbers_any (g : Nat) (gc : Nat) (L : List ByteArray) (n : Nat) (hn : n = L.length) (h9 : n ≤ 1048576) (hL : ∀ x ∈ L, x.size ≤ 1048576) (w : World) (hT : THas w g L) (hV : Vars w) :
    Calls Tryd.prog 22 #[.slice (some ⟨g, 0, none⟩) n gc] w fun e w' => LAns w w' e L ∧ Below w.heap.size w w' := by
  have HN : Hid (n = L.length) := hn
  clear hn
  go_enter Tryd.func22, Tryd.ntmps22
  have hmk := make_ints n h9
  go_wp2
  clear hmk
  have hI0 := made_ints w n
  go_loopw [14] (fun x wr => ∃ (i : Nat) (ns : List Int), i ≤ n ∧ x = .int .i64 i ∧ Hid (allN (L.take i) = some ns ∧ ns.length = i) ∧ IHas wr w.heap.size n (fun j => ns.getD j 0) ∧ Below w.heap.size w wr) (fun x _ => n - (intOf x).toNat)
  case atStart => exact ⟨0, [], Nat.zero_le _, rfl, ⟨rfl, rfl⟩, hI0.congr (fun j _ => by simp), (Below.refl _ _).alloc (Nat.le_refl _) _⟩
  case round =>
    clear hI0
    obtain ⟨i, ns, hi, rfl, HS, hI, hbel⟩ := hrel
    by_cases hlt : i < n
    · have hlt' : (i : Int) < (n : Int) := by omega
      have hi0 : (0 : Int) ≤ (i : Int) := by omega
      obtain ⟨x, hx⟩ : ∃ x, L[i]? = some x := ⟨L[i]'(by have := HN.out; omega), List.getElem?_eq_getElem _⟩
      have HX : Hid (L[i]? = some x) := hx
      have hxm : x.size ≤ 1048576 := hL x (List.mem_of_getElem? hx)
      have c0 : wr.cell? ⟨g, i, none⟩ = some (.string x) := by
        have h1 := (hT.below hbel hT.1).2 i (by have := HN.out; omega)
        rw [List.getElem?_eq_getElem (by have := HN.out; omega)] at hx
        injection hx with hx
        rw [← hx]
        exact h1
      clear hx
      go_wp2_with fail
      refine (readNumber_any x hxm _ (hV.below hbel)).mono ?_
      rintro e w1 ⟨he, hb⟩
      have hB1 := below_next hbel (Nat.le_refl _) hb
      have hI1 := hI.below hb hI.lt
      clear c0
      cases hnum : num1 x.data.toList with
      | none =>
        have he1 : e = .returned (.tuple #[.int .i64 0, .bool false]) := by rw [he, hnum]; rfl
        subst he1
        have HE : Hid (allN L = none) := by
          have h1 := HX.out
          rw [List.getElem?_eq_getElem (by have := HN.out; omega)] at h1
          injection h1 with h1
          exact allN_none (i := i) (by have := HN.out; omega) (by rw [h1]; exact hnum)
        clear he
        go_wp2
        exact bodyPost_ret (v := .tuple #[.slice none 0 0, .bool false]) (by simp [results, Tryd.results22, go_sem]) rfl ⟨by unfold LAns; rw [HE.out], hB1⟩
      | some v =>
        have he1 : e = .returned (.tuple #[.int .i64 v, .bool true]) := by rw [he, hnum]; rfl
        subst he1
        have HS1 : Hid (allN (L.take (i + 1)) = some (ns ++ [v]) ∧ (ns ++ [v]).length = i + 1) := by
          have h1 := HX.out
          rw [List.getElem?_eq_getElem (by have := HN.out; omega)] at h1
          injection h1 with h1
          refine ⟨?_, by simp [HS.out.2]⟩
          rw [allN_take (by have := HN.out; omega), HS.out.1, h1, hnum]
          rfl
        have hl := HS.out.2
        have hI2 := (hI1.set i v).congr (g := fun j => (ns ++ [v]).getD j 0) (fun j hj => by
          simp only [List.getD_eq_getElem?_getD]
          by_cases c : j = i
          · subst c; rw [if_pos rfl, List.getElem?_append_right (by omega)]; simp [hl]
          · rw [if_neg c]
            by_cases c2 : j < i
            · rw [List.getElem?_append_left (by omega)]
            · rw [List.getElem?_eq_none (by omega), List.getElem?_eq_none (by simp; omega)])
        have hB2 := hB1.setCell (p := ⟨w.heap.size, i, none⟩) (Nat.le_refl _) (.int .i64 v)
        have d0 := hI1.cell hlt
        have z0 := hI1.frozen
        clear he hl hnum
        go_wp2
        go_roundw
        case rel => exact ⟨i + 1, ns ++ [v], by omega, by go_num, HS1, hI2, hB2⟩
        case measure => simp [intOf]; omega
    · have hin : i = n := by omega
      subst hin
      go_wp2
      have hl := HN.out
      have hS := HS.out
      rw [hl, List.take_length] at hS
      exact bodyPost_ret (v := .tuple #[.slice (some ⟨w.heap.size, 0, none⟩) i i, .bool true]) (by simp [results, Tryd.results22, go_sem]) rfl ⟨by unfold LAns; rw [hS.1, ← hl]; exact ⟨_, rfl, Nat.le_refl _, hI⟩, hbel⟩

end Go.Proofs.YtcmeppjfjledfaaDoor

/-
  The small functions of the exact laws of chapter 1: what each call answers, and that nothing that was there has turned. No condition but those that each theorem names.
-/
set_option linter.unusedVariables false
set_option linter.unusedSimpArgs false
namespace Go.Proofs.YtcmeppjfjledfaaDoor
open Go.RowKit


/-- Cell j of n arcs that lie one behind the other. -/
def ar (F T G : Nat → Int) (j : Nat) : Int := if j % 3 = 0 then F (j / 3) else if j % 3 = 1 then T (j / 3) else G (j / 3)
theorem ar0 (F T G : Nat → Int) (k : Nat) : ar F T G (k * 3) = F k := by
  unfold ar; rw [if_pos (by omega)]; congr 1; omega
theorem ar1 (F T G : Nat → Int) (k : Nat) : ar F T G (k * 3 + 1) = T k := by
  unfold ar; rw [if_neg (by omega), if_pos (by omega)]; congr 1; omega
theorem ar2 (F T G : Nat → Int) (k : Nat) : ar F T G (k * 3 + 2) = G k := by
  unfold ar; rw [if_neg (by omega), if_neg (by omega)]; congr 1; omega

/-- n arcs lie behind a slice's address. -/
def Row (w : World) (ao : Option Addr) (n : Nat) (F T G : Nat → Int) : Prop := ∀ k, k < n → ∃ b o, ao = some ⟨b, o, none⟩ ∧
  w.cell? ⟨b, o + k * 3, none⟩ = some (.int .i64 (F k)) ∧ w.cell? ⟨b, o + k * 3 + 1, none⟩ = some (.int .i64 (T k)) ∧ w.cell? ⟨b, o + k * 3 + 2, none⟩ = some (.int .i64 (G k))

theorem Row.below {w w' : World} {B : Nat} {ao : Option Addr} {n : Nat} {F T G : Nat → Int} (h : Row w ao n F T G) (hb : Below B w w') (hB : w.heap.size ≤ B) : Row w' ao n F T G := fun k hk => by
  obtain ⟨b, o, e, c0, c1, c2⟩ := h k hk
  have hlt := lt_of_cell c0
  exact ⟨b, o, e, by rw [hb.cell (by simp; omega)]; exact c0, by rw [hb.cell (by simp; omega)]; exact c1, by rw [hb.cell (by simp; omega)]; exact c2⟩

theorem Row.alloc {w : World} {ao : Option Addr} {n : Nat} {F T G : Nat → Int} (h : Row w ao n F T G) (o : Obj) : Row (w.alloc o) ao n F T G := h.below ((Below.refl w.heap.size w).alloc (Nat.le_refl _) o) (Nat.le_refl _)

/-- n arcs of the call's own, in a block of their own. -/
def Own (w : World) (b n : Nat) (f : Nat → Int) : Prop := w.rowIs b 37 (n * 3) (fun j => .int .i64 (f j))

theorem Own.row {w : World} {b n : Nat} {F T G : Nat → Int} (h : Own w b n (ar F T G)) : Row w (some ⟨b, 0, none⟩) n F T G := fun k hk => by
  refine ⟨b, 0, rfl, ?_, ?_, ?_⟩
  · have := World.rowIs.cell h (i := k * 3) (by omega); rw [ar0] at this; simpa using this
  · have := World.rowIs.cell h (i := k * 3 + 1) (by omega); rw [ar1] at this; simpa using this
  · have := World.rowIs.cell h (i := k * 3 + 2) (by omega); rw [ar2] at this; simpa using this

theorem Own.below {w w' : World} {b n : Nat} {f : Nat → Int} (h : Own w b n f) (hb : Below w.heap.size w w') : Own w' b n f := World.rowIs.of_block h (hb.block b (World.rowIs.lt h))

theorem Own.three {w : World} {b n k : Nat} {F T G : Nat → Int} (h : Own w b n (upto (ar F T G) (k * 3))) (hk : k < n) :
    Own (((w.setCell ⟨b, k * 3, none⟩ (.int .i64 (F k))).setCell ⟨b, k * 3 + 1, none⟩ (.int .i64 (T k))).setCell ⟨b, k * 3 + 2, none⟩ (.int .i64 (G k))) b n (upto (ar F T G) ((k + 1) * 3)) := by
  refine (((World.rowIs.set h (k * 3) _).set (k * 3 + 1) _).set (k * 3 + 2) _).congr fun j hj => ?_
  by_cases e2 : j = k * 3 + 2
  · subst e2; simp only [if_pos]; unfold upto; rw [if_pos (by omega), ar2]
  by_cases e1 : j = k * 3 + 1
  · subst e1; rw [if_neg (by omega), if_pos rfl]; unfold upto; rw [if_pos (by omega), ar1]
  by_cases e0 : j = k * 3
  · subst e0; rw [if_neg (by omega), if_neg (by omega), if_pos rfl]; unfold upto; rw [if_pos (by omega), ar0]
  rw [if_neg e2, if_neg e1, if_neg e0]; unfold upto
  by_cases hl : j < k * 3
  · rw [if_pos hl, if_pos (by omega)]
  · rw [if_neg hl, if_neg (by omega)]

theorem Tryd.infoArc : (Tryd.prog.info? 37).map (fun i => (i.zero, i.size, i.bytes)) = some (some (.agg #[.int .i64 0, .int .i64 0, .int .i64 0]), 3, 24) := by kernel_rfl

theorem made_own (w : World) (n : Nat) (f : Nat → Int) : Own (w.alloc (.cells (madeCells #[.int .i64 0, .int .i64 0, .int .i64 0] (n * 3)) 37)) w.heap.size n (upto f 0) := by
  refine ⟨_, Go.Deep.blk_alloc_new _ _, size_madeCells _ _, fun i hi => ?_⟩
  have h3 : i % 3 = 0 ∨ i % 3 = 1 ∨ i % 3 = 2 := by omega
  simp [madeCells, hi, upto]
  rcases h3 with h | h | h <;> simp [h]

theorem make_arcs (n : Nat) (hn : n ≤ 1048576) (w : World) :
    (Instr.makeSlice 24 (.int .i64 (n : Int)) (.int .i64 (n : Int))).run Tryd.prog w = .ok (.slice (some ⟨w.heap.size, 0, none⟩) n n) (w.alloc (.cells (madeCells #[.int .i64 0, .int .i64 0, .int .i64 0] (n * 3)) 37)) := by
  obtain ⟨i, hi, hz0, hz1, hz2⟩ := info_parts Tryd.infoArc
  have hr := run_make (P := Tryd.prog) w 24 37 i _ Tryd.underlying24 hi hz0 .i64 .i64 n n (by omega) (Int.le_refl _) (by rw [hz2]; omega) (by omega)
  simpa [hz1, Value.cells] using hr

end Go.Proofs.YtcmeppjfjledfaaDoor

/-
  Keys of two numbers, and maps of the call's own in a later world: no function of the program.
-/
set_option linter.unusedVariables false
set_option linter.unusedSimpArgs false
namespace Go.Proofs.YtcmeppjfjledfaaDoor
open Go.ChangeShapes Go.WideShapes Go.ChangeAt Go.RowKit Go.Maps

theorem key_two {P : Program} {k : TypeId} {f0 f1 : Field} (hs : P.underlying k = some (.struct #[f0, f1])) (hk : P.keyType k = true) (hC : P.cellsOf k = 2) (h0 : P.underlying f0.type = some (.int .i64)) (h1 : P.underlying f1.type = some (.int .i64))
    (o0 : f0.offset = 0) (o1 : f1.offset = 1) (c0 : P.cellsOf f0.type = 1) (c1 : P.cellsOf f1.type = 1) (n0 : (f0.name != "_") = true) (n1 : (f1.name != "_") = true) (hm : ∃ m, P.types.size = m + 1)
    {f t : Int} (hf : (Lit.int .i64 f).wf = true) (ht : (Lit.int .i64 t).wf = true) : keyOf P k (.agg #[.int .i64 f, .int .i64 t]) = some (.string (keyBytes [.int .i64 f, .int .i64 t])) := by
  obtain ⟨m, hm⟩ := hm
  simp at n0 n1
  simp [keyOf, hs, hk, Value.formed, hC, Value.cells, hm, Program.keyLits, h0, h1, o0, o1, c0, c1, n0, n1, hf, ht]

theorem ownsMap_block {H : Type} {P : Program} {k : TypeId} {R : Value → Option (DataW H × List MemPlace)} {b n : Nat} {D : DataW H} {w w' : World} (h : w.ownsMap P k R b n D) (e : w'.heap[b]? = w.heap[b]?) : w'.ownsMap P k R b n D := by
  unfold World.ownsMap at h ⊢
  rw [e]; exact h
theorem ownsMap_below {H : Type} {P : Program} {k : TypeId} {R : Value → Option (DataW H × List MemPlace)} {b n : Nat} {D : DataW H} {w w' : World} (h : w.ownsMap P k R b n D) (hb : Below w.heap.size w w') : w'.ownsMap P k R b n D :=
  ownsMap_block h (hb.block b h.lt)

end Go.Proofs.YtcmeppjfjledfaaDoor

/-
  Memory of the call's own that holds arcs: read, written, and left alone; the laws' marks in it.
-/
set_option linter.unusedVariables false
set_option linter.unusedSimpArgs false
namespace Go.Proofs.YtcmeppjfjledfaaDoor
open Go.RowKit Go.Maps

/-- Block b begins with n arcs' cells, may be written, and holds the numbers f. -/
def Has (w : World) (b n : Nat) (f : Nat → Int) : Prop := ∃ cur : Array Value, w.heap[b]? = some (.cells cur 37 (0, 0)) ∧ n * 3 ≤ cur.size ∧ ∀ j, j < n * 3 → cur[j]? = some (.int .i64 (f j))

theorem Has.of_own {w : World} {b n : Nat} {f : Nat → Int} (h : Own w b n f) : Has w b n f := by
  obtain ⟨c, hb, hn, hc⟩ := h
  exact ⟨c, hb, by omega, hc⟩
theorem Has.cell {w : World} {b n : Nat} {f : Nat → Int} (h : Has w b n f) {j : Nat} (hj : j < n * 3) : w.cell? ⟨b, j, none⟩ = some (.int .i64 (f j)) := by
  obtain ⟨c, hb, _, hc⟩ := h
  simp [World.cell?, hb, hc j hj]
theorem Has.frozen {w : World} {b n : Nat} {f : Nat → Int} (h : Has w b n f) (j : Nat) : w.frozen? ⟨b, j, none⟩ = false := by
  obtain ⟨c, hb, _, _⟩ := h
  simp [World.frozen?, hb]
theorem Has.lt {w : World} {b n : Nat} {f : Nat → Int} (h : Has w b n f) : b < w.heap.size := by
  obtain ⟨c, hb, _, _⟩ := h
  exact (Array.getElem?_eq_some_iff.1 hb).1
theorem Has.of_block {w w' : World} {b n : Nat} {f : Nat → Int} (h : Has w b n f) (e : w'.heap[b]? = w.heap[b]?) : Has w' b n f := by
  obtain ⟨c, hb, hn, hc⟩ := h
  exact ⟨c, e.trans hb, hn, hc⟩
theorem Has.congr {w : World} {b n : Nat} {f g : Nat → Int} (h : Has w b n f) (e : ∀ j, j < n * 3 → f j = g j) : Has w b n g := by
  obtain ⟨c, hb, hn, hc⟩ := h
  exact ⟨c, hb, hn, fun j hj => by rw [hc j hj, e j hj]⟩
theorem Has.set {w : World} {b n : Nat} {f : Nat → Int} (h : Has w b n f) (i : Nat) (v : Int) : Has (w.setCell ⟨b, i, none⟩ (.int .i64 v)) b n (fun j => if j = i then v else f j) := by
  obtain ⟨c, hb, hn, hc⟩ := h
  refine ⟨c.setIfInBounds i (.int .i64 v), ?_, by simpa using hn, fun j hj => ?_⟩
  · simp [World.setCell, Array.getElem?_modify, hb]
  · rw [Array.getElem?_setIfInBounds]
    by_cases e : j = i
    · subst e
      simp; omega
    · rw [if_neg (fun h => e h.symm)]
      show c[j]? = some (.int .i64 (if j = i then v else f j))
      rw [if_neg e]
      exact hc j hj
theorem Has.row {w : World} {b n : Nat} {F T G : Nat → Int} (h : Has w b n (ar F T G)) : Row w (some ⟨b, 0, none⟩) n F T G := fun k hk => by
  refine ⟨b, 0, rfl, ?_, ?_, ?_⟩
  · have := h.cell (j := k * 3) (by omega); rw [ar0] at this; simpa using this
  · have := h.cell (j := k * 3 + 1) (by omega); rw [ar1] at this; simpa using this
  · have := h.cell (j := k * 3 + 2) (by omega); rw [ar2] at this; simpa using this
theorem Has.below {w w' : World} {b n B : Nat} {f : Nat → Int} (h : Has w b n f) (hb : Below B w w') (hB : b < B) : Has w' b n f := h.of_block (hb.block b hB)
theorem Has.grown {w w' : World} {b n : Nat} {f : Nat → Int} {row : Option Nat} (h : Has w b n f) (hg : w.grownBy w' row) (hne : some b ≠ row) : Has w' b n f := h.of_block (hg.block b h.lt hne)

theorem grown_setCell (w : World) (b o : Nat) (v : Value) : w.grownBy (w.setCell ⟨b, o, none⟩ v) (some b) :=
  ⟨rfl, rfl, rfl, by simp [World.setCell], fun k _ hne => Below.heap_setCell _ _ _ _ (fun e => hne (by rw [e]))⟩
theorem grown_below {w w' : World} {b B : Nat} (h : w.grownBy w' (some b)) (hb : B ≤ b) (hB : B ≤ w.heap.size) : Below B w w' :=
  ⟨h.os, h.tape, h.output, h.size, fun k hk => h.block k (by omega) (fun e => by simp at e; omega)⟩
theorem below_grown {w w' : World} {row : Option Nat} (h : Below w.heap.size w w') : w.grownBy w' row := ⟨h.os, h.tape, h.output, h.size, fun k hk _ => h.block k hk⟩
theorem grown_drew (w : World) (row : Option Nat) : w.grownBy w.drew row := ⟨rfl, rfl, rfl, Nat.le_refl _, fun _ _ _ => rfl⟩
theorem Row.grown {w w' : World} {ao : Option Addr} {n b B : Nat} {F T G : Nat → Int} (h : Row w ao n F T G) (hg : w.grownBy w' (some b)) (hB : ∀ a, ao = some a → 0 < n → a.block < b) : Row w' ao n F T G := fun k hk => by
  obtain ⟨b', o, e, c0, c1, c2⟩ := h k hk
  have hlt := hB _ e (by omega)
  have hne : some b' ≠ some b := fun e => by simp at e; simp at hlt; omega
  exact ⟨b', o, e, hg.cell c0 hne, hg.cell c1 hne, hg.cell c2 hne⟩

/-- n arcs behind a slice are the call's own, from block B on. -/
def OwnS (w : World) (B : Nat) (ao : Option Addr) (n : Nat) (f : Nat → Int) : Prop := ∀ k, k < n → ∃ b, ao = some ⟨b, 0, none⟩ ∧ B ≤ b ∧ Has w b n f
theorem OwnS.row {w : World} {B n : Nat} {ao : Option Addr} {F T G : Nat → Int} (h : OwnS w B ao n (ar F T G)) : Row w ao n F T G := fun k hk => by
  obtain ⟨b, e, _, hh⟩ := h k hk
  subst e
  exact hh.row k hk

/-- The marks: cell j holds k + j. -/
def mk (k : Int) (j : Nat) : Int := k + j


end Go.Proofs.YtcmeppjfjledfaaDoor

/-
  The laws' marks in an answer's memory, and the look whether they are still held; copies of arcs.
-/
set_option linter.unusedVariables false
set_option linter.unusedSimpArgs false
namespace Go.Proofs.YtcmeppjfjledfaaDoor
open Go.RowKit Go.Maps
attribute [local go_sem ↓] Go.wp_at_zero Go.wp_at_succ

theorem grown_unbox {w w' : World} {o : Obj} {b : Nat} (h : (w.alloc o).grownBy w' (some b)) : w.grownBy w' (some b) := (World.grownBy_alloc w o _).trans h


/-- The cells of n arcs, one behind the other. -/
def cellsOf (f : Nat → Int) (m : Nat) : List Value := (List.range m).map fun j => .int .i64 (f j)
theorem Row.news {w : World} {b o n : Nat} {F T G : Nat → Int} (hr : Row w (some ⟨b, o, none⟩) n F T G) : ∀ j u, (cellsOf (ar F T G) (n * 3))[j]? = some u → w.cell? ((⟨b, o, none⟩ : Addr).add j) = some u := fun j u hu => by
  have hj : j < n * 3 := by
    have := (List.getElem?_eq_some_iff.1 hu).1
    simpa [cellsOf] using this
  have hu' : u = .int .i64 (ar F T G j) := by
    rw [cellsOf, List.getElem?_map, List.getElem?_range hj] at hu
    simpa using hu.symm
  subst hu'
  obtain ⟨b', o', e, c0, c1, c2⟩ := hr (j / 3) (by omega)
  simp at e
  obtain ⟨rfl, rfl⟩ := e
  rw [Addr.add_mid]
  have h3 : j % 3 = 0 ∨ j % 3 = 1 ∨ j % 3 = 2 := by omega
  unfold ar
  rcases h3 with h | h | h
  · rw [if_pos h, ← c0]; congr 2; omega
  · rw [if_neg (by omega), if_pos h, ← c1]; congr 2; omega
  · rw [if_neg (by omega), if_neg (by omega), ← c2]; congr 2; omega
theorem cellsOf_one (f : Nat → Int) (m : Nat) : ∀ u ∈ cellsOf f m, u.oneCell' = true := fun u hu => by
  simp [cellsOf] at hu
  obtain ⟨_, _, rfl⟩ := hu
  rfl

end Go.Proofs.YtcmeppjfjledfaaDoor

/-
  Memory of the call's own, cell by cell: a block that may be written and whose first cells are known.
-/
set_option linter.unusedVariables false
set_option linter.unusedSimpArgs false
namespace Go.Proofs.YtcmeppjfjledfaaDoor
open Go.RowKit

/-- Block b, of type t, begins with the n cells f and may be written. -/
def VHas (w : World) (b : Nat) (t : TypeId) (n : Nat) (f : Nat → Value) : Prop := ∃ cur : Array Value, w.heap[b]? = some (.cells cur t (0, 0)) ∧ n ≤ cur.size ∧ ∀ j, j < n → cur[j]? = some (f j)
theorem VHas.cell {w : World} {b n : Nat} {t : TypeId} {f : Nat → Value} (h : VHas w b t n f) {j : Nat} (hj : j < n) : w.cell? ⟨b, j, none⟩ = some (f j) := by
  obtain ⟨c, hb, _, hc⟩ := h
  simp [World.cell?, hb, hc j hj]
theorem VHas.frozen {w : World} {b n : Nat} {t : TypeId} {f : Nat → Value} (h : VHas w b t n f) (j : Nat) : w.frozen? ⟨b, j, none⟩ = false := by
  obtain ⟨c, hb, _, _⟩ := h
  simp [World.frozen?, hb]
theorem VHas.lt {w : World} {b n : Nat} {t : TypeId} {f : Nat → Value} (h : VHas w b t n f) : b < w.heap.size := by
  obtain ⟨c, hb, _, _⟩ := h
  exact (Array.getElem?_eq_some_iff.1 hb).1
theorem VHas.of_block {w w' : World} {b n : Nat} {t : TypeId} {f : Nat → Value} (h : VHas w b t n f) (e : w'.heap[b]? = w.heap[b]?) : VHas w' b t n f := by
  obtain ⟨c, hb, hn, hc⟩ := h
  exact ⟨c, e.trans hb, hn, hc⟩
theorem VHas.congr {w : World} {b n : Nat} {t : TypeId} {f g : Nat → Value} (h : VHas w b t n f) (e : ∀ j, j < n → f j = g j) : VHas w b t n g := by
  obtain ⟨c, hb, hn, hc⟩ := h
  exact ⟨c, hb, hn, fun j hj => by rw [hc j hj, e j hj]⟩
theorem VHas.set {w : World} {b n : Nat} {t : TypeId} {f : Nat → Value} (h : VHas w b t n f) (i : Nat) (v : Value) : VHas (w.setCell ⟨b, i, none⟩ v) b t n (fun j => if j = i then v else f j) := by
  obtain ⟨c, hb, hn, hc⟩ := h
  refine ⟨c.setIfInBounds i v, ?_, by simpa using hn, fun j hj => ?_⟩
  · simp [World.setCell, Array.getElem?_modify, hb]
  · rw [Array.getElem?_setIfInBounds]
    by_cases e : j = i
    · subst e
      simp; omega
    · rw [if_neg (fun h => e h.symm)]
      show c[j]? = some (if j = i then v else f j)
      rw [if_neg e]
      exact hc j hj
theorem VHas.other {w : World} {b n c i : Nat} {t : TypeId} {f : Nat → Value} (h : VHas w b t n f) (hne : b ≠ c) (v : Value) : VHas (w.setCell ⟨c, i, none⟩ v) b t n f := h.of_block (Below.heap_setCell _ _ _ _ (fun e => hne (by simpa using e)))
theorem VHas.below {w w' : World} {b n B : Nat} {t : TypeId} {f : Nat → Value} (h : VHas w b t n f) (hb : Below B w w') (hB : b < B) : VHas w' b t n f := h.of_block (hb.block b hB)
theorem VHas.next {w w' : World} {b n : Nat} {t : TypeId} {f : Nat → Value} (h : VHas w b t n f) (hb : Below w.heap.size w w') : VHas w' b t n f := h.below hb h.lt
theorem VHas.alloc {w : World} {b n : Nat} {t : TypeId} {f : Nat → Value} (h : VHas w b t n f) (o : Obj) : VHas (w.alloc o) b t n f := h.next ((Below.refl _ _).alloc (Nat.le_refl _) _)
theorem VHas.grown {w w' : World} {b n : Nat} {t : TypeId} {f : Nat → Value} {row : Option Nat} (h : VHas w b t n f) (hg : w.grownBy w' row) (hne : some b ≠ row) : VHas w' b t n f := h.of_block (hg.block b h.lt hne)
theorem VHas.of_row {w : World} {b n : Nat} {t : TypeId} {f : Nat → Value} (h : w.rowIs b t n f) : VHas w b t n f := by
  obtain ⟨c, hb, hn, hc⟩ := h
  exact ⟨c, hb, by omega, hc⟩

end Go.Proofs.YtcmeppjfjledfaaDoor

/-
  Is a number within two others: the document's and the program's question. No condition.
-/
set_option linter.unusedVariables false
set_option linter.unusedSimpArgs false
namespace Go.Proofs.YtcmeppjfjledfaaDoor
open Go.RowKit

theorem l1In_any (x lo hi : Int) (w : World) :
    Calls Tryd.prog 33 #[.int .i64 x, .int .i64 lo, .int .i64 hi] w fun e w' => e = .returned (.bool (inB x lo hi)) ∧ w' = w := by
  by_cases h1 : lo ≤ x <;> by_cases h2 : x ≤ hi <;>
  · go_enter Tryd.func33, Tryd.ntmps33
    go_wp2
    go_ret
    exact ⟨by simp [inB, h1, h2], rfl⟩
theorem placeOk_any (x p : Int) (w : World) :
    Calls Tryd.prog 36 #[.int .i64 x, .int .i64 p] w fun e w' => e = .returned (.bool (inB x 0 (p - 1))) ∧ w' = w := by
  by_cases h1 : 0 ≤ x <;> by_cases h2 : x < p <;>
  · go_enter Tryd.func36, Tryd.ntmps36
    go_wp2
    go_ret
    exact ⟨by simp [inB, h1]; omega, rfl⟩

end Go.Proofs.YtcmeppjfjledfaaDoor

/-
  GraphOk: the document's and the program's, each held against one plain function of the arcs.
-/
set_option linter.unusedVariables false
set_option linter.unusedSimpArgs false
namespace Go.Proofs.YtcmeppjfjledfaaDoor
open Go.RowKit

def arcB (f t g p : Int) : Bool := inB f 0 (p - 1) && (inB t 0 (p - 1) && (f != t && inB g 1 1000000))
def arcsB (p : Int) (F T G : Nat → Int) : Nat → Bool
  | 0 => true
  | k + 1 => arcsB p F T G k && (arcB (F k) (T k) (G k) p && (k == 0 || upB (F (k - 1)) (T (k - 1)) (F k) (T k)))
def graphB (p : Int) (n : Nat) (F T G : Nat → Int) : Bool := inB p 1 24 && (decide (n ≤ 100) && arcsB p F T G n)
set_option maxHeartbeats 800000 in
theorem l1Arc_any (f t g p : Int) (hp : 1 ≤ p) (hp' : p ≤ 24) (w : World) :
    Calls Tryd.prog 34 #[.agg #[.int .i64 f, .int .i64 t, .int .i64 g], .int .i64 p] w fun e w' => e = .returned (.bool (arcB f t g p)) ∧ Below w.heap.size w w' := by
  unfold arcB
  rcases Bool.eq_false_or_eq_true (inB f 0 (p - 1)) with h1 | h1
  · rcases Bool.eq_false_or_eq_true (inB t 0 (p - 1)) with h2 | h2
    · rcases Bool.eq_false_or_eq_true (f != t) with h3 | h3 <;>
      · go_enter Tryd.func34, Tryd.ntmps34
        go_wp2_with (go_at_call 33; refine (l1In_any _ _ _ _).mono ?_; rintro e w1 ⟨rfl, rfl⟩)
        go_ret
        exact ⟨by simp [h1, h2, h3], (Below.refl _ _).alloc (Nat.le_refl _) _⟩
    · go_enter Tryd.func34, Tryd.ntmps34
      go_wp2_with (go_at_call 33; refine (l1In_any _ _ _ _).mono ?_; rintro e w1 ⟨rfl, rfl⟩)
      go_ret
      exact ⟨by simp [h1, h2], (Below.refl _ _).alloc (Nat.le_refl _) _⟩
  · go_enter Tryd.func34, Tryd.ntmps34
    go_wp2_with (go_at_call 33; refine (l1In_any _ _ _ _).mono ?_; rintro e w1 ⟨rfl, rfl⟩)
    go_ret
    exact ⟨by simp [h1], (Below.refl _ _).alloc (Nat.le_refl _) _⟩

end Go.Proofs.YtcmeppjfjledfaaDoor

/-
  Which commands are right: a plain function.
-/
set_option linter.unusedVariables false
set_option linter.unusedSimpArgs false
namespace Go.Proofs.YtcmeppjfjledfaaDoor

def batB (F T G : Nat → Int) : Nat → Bool
  | 0 => true
  | k + 1 => batB F T G k && arcB (F k) (T k) (G k) 24
def batchB (F T G : Nat → Int) (n : Nat) : Bool := decide (1 ≤ n) && (decide (n ≤ 10) && batB F T G n)
/-- Whether a command is right. -/
def cmdB (K : Int) (n : Nat) (F T G : Nat → Int) (a b : Int) : Bool :=
  if K = 1 then decide (n = 0) && (decide (a = 0) && decide (b = 0))
  else if K = 2 then batchB F T G n && (decide (a = 0) && decide (b = 0))
  else if K = 3 then decide (n = 0) && (inB a 0 23 && inB b 0 23)
  else false
theorem batB_no {F T G : Nat → Int} : ∀ {n k : Nat}, k < n → arcB (F k) (T k) (G k) 24 = false → batB F T G n = false
  | 0, k, h, _ => by omega
  | n + 1, k, h, hb => by
    unfold batB
    by_cases e : k = n
    · subst e; rw [hb]; simp
    · rw [batB_no (n := n) (k := k) (by omega) hb]; simp


end Go.Proofs.YtcmeppjfjledfaaDoor
