/-
  Helpers, merged: Equal, RankImpl, OrderOk, Sort, MeshMem, Rounds, Iter, Count.
-/
import Derived.Test.YteibbknpcgcjjaiGreatPack1
import Derived.Test.YteibbknpcgcjjaiGreatPack5
import Derived.Test.YteibbknpcgcjjaiGreatPack3
import Derived.Test.YteibbknpcgcjjaiGreatPack4
import Derived.BigRegion
import Derived.Test.YteibbknpcgcjjaiGreatRows
import Derived.RangeFuncNested
import Derived.RangeFuncBound
import Derived.RangeFuncCalls
import Derived.RangeFuncLeaves
import Derived.Shelf.Abstract
import Derived.Shelf.RegionOpen
import Derived.WalkKit
import Derived.OwnWalkIn
import Derived.TacticsInMore
import Derived.LoopNIn
import Derived.LoopIn
import Derived.Sort.QuietIn
/-
  slices.Equal over edges: true just where both are as long, and each edge is the same.
-/
set_option linter.unusedVariables false
set_option linter.unusedSimpArgs false
namespace Go.Proofs.YteibbknpcgcjjaiGreat
open Go.RowKit
attribute [local go_sem ↓] Go.wp_at_zero Go.wp_at_succ

def SameE (n m : Nat) (L H L' H' : Nat → Int) : Prop := n = m ∧ ∀ i, i < n → L i = L' i ∧ H i = H' i
set_option maxHeartbeats 1000000 in
theorem equalE_any (ao ao' : Option Addr) (n m cap cap' : Nat) (L H L' H' : Nat → Int) (hn : n ≤ 1048576) (hm : m ≤ 1048576) (w : World) (hr : ERow w ao n L H) (hr' : ERow w ao' m L' H') :
    Calls Tryz.prog 113 #[.slice ao n cap, .slice ao' m cap'] w fun e w' => BAns e (SameE n m L H L' H') ∧ Below w.heap.size w w' := by
  by_cases hnm : n = m
  rotate_left
  · have HN : Hid (¬ SameE n m L H L' H') := fun h => hnm h.1
    have hnm' : ¬ (n : Int) = (m : Int) := by omega
    go_enter Tryz.func113, Tryz.ntmps113
    go_wp2
    go_ret
    exact ⟨bans_no HN.out, Below.refl _ _⟩
  subst hnm
  go_enter Tryz.func113, Tryz.ntmps113
  go_wp2
  go_loopw [13] (fun x wr => ∃ k : Nat, k ≤ n ∧ x = .int .i64 k ∧ (∀ i, i < k → L i = L' i ∧ H i = H' i) ∧ Below w.heap.size w wr) (fun x _ => n - (intOf x).toNat)
  case atStart => exact ⟨0, Nat.zero_le _, rfl, fun i hi => by omega, Below.refl _ _⟩
  case round =>
    obtain ⟨k, hk, rfl, hall, hbel⟩ := hrel
    have HA : Hid (∀ i, i < k → L i = L' i ∧ H i = H' i) := hall
    clear hall
    by_cases hlt : k < n
    rotate_left
    · have hkn : k = n := by omega
      subst hkn
      go_wp2
      go_ret
      exact ⟨bans_yes ⟨rfl, HA.out⟩, hbel⟩
    obtain ⟨b, o, hao, c0, c1⟩ := (hr.below hbel (Nat.le_refl _)) k hlt
    subst hao
    obtain ⟨b', o', hao', d0, d1⟩ := (hr'.below hbel (Nat.le_refl _)) k hlt
    subst hao'
    have hk1 : (0 : Int) ≤ (k : Int) := by omega
    have hk2 : (k : Int) < (n : Int) := by omega
    by_cases he : L k = L' k ∧ H k = H' k
    · have HE : Hid (L k = L' k ∧ H k = H' k) := he
      obtain ⟨e1, e2⟩ := he
      rw [← e1] at d0
      rw [← e2] at d1
      clear e1 e2
      go_wp2
      go_quiet (fail)
      go_wp2
      go_roundw
      case rel => exact ⟨k + 1, by omega, by go_num, fun i hi => by
        by_cases x : i = k
        · subst x; exact HE.out
        · exact HA.out i (by omega), below_drewN hbel _⟩
      case measure => simp [intOf]; omega
    · have HE : Hid (¬ SameE n n L H L' H') := fun h => he (h.2 k hlt)
      by_cases h1 : L k = L' k
      · have h2 : ¬ H k = H' k := fun h => he ⟨h1, h⟩
        rw [← h1] at d0
        clear h1 he
        go_wp2
        go_quiet (fail)
        go_wp2
        go_ret
        exact ⟨bans_no HE.out, below_drewN hbel _⟩
      · clear he
        go_wp2
        go_quiet (fail)
        go_wp2
        go_ret
        exact ⟨bans_no HE.out, below_drewN hbel _⟩

end Go.Proofs.YteibbknpcgcjjaiGreat

/-
  Ranks, the program's: the same list, in new memory. For every list of at most 2^20 numbers.
-/
set_option linter.unusedVariables false
set_option linter.unusedSimpArgs false
namespace Go.Proofs.YteibbknpcgcjjaiGreat
open Go.RowKit
attribute [local go_sem ↓] Go.wp_at_zero Go.wp_at_succ

set_option maxHeartbeats 1000000 in
theorem implRanks_any (ao : Option Addr) (n cap : Nat) (P : Nat → Int) (hn : n ≤ 1048576) (w : World) (hr : IRow w ao n P) :
    Calls Tryz.prog 48 #[.slice ao n cap] w fun e w' => Ans w w' e (lenR n P) (rk P (-1) n) := by
  by_cases h2 : 24 < n
  · have h2' : 24 < (n : Int) := by omega
    have hL : lenR n P = 0 := by
      have : ¬ n ≤ 24 := by omega
      simp [lenR, okR, this]
    rw [hL]
    go_enter Tryz.func48, Tryz.ntmps48
    go_wp2
    go_ret
    exact ⟨_, _, rfl, fun h => by omega, (Below.refl _ _).alloc (Nat.le_refl _) _⟩
  have h2' : ¬ 24 < (n : Int) := by omega
  have hmk := make_ints n hn
  go_enter Tryz.func48, Tryz.ntmps48
  go_wp2
  clear hmk
  go_loopw [16] (fun i wr => ∃ k : Nat, k ≤ n ∧ i = .int .i64 k ∧ IHas wr w.heap.size n (fun j => if j < k then -1 else 0) ∧ Below w.heap.size w wr) (fun i _ => n - (intOf i).toNat)
  case atStart => exact ⟨0, Nat.zero_le _, rfl, (made_ints w n).congr (fun j _ => by simp), (Below.refl _ _).alloc (Nat.le_refl _) _⟩
  case round =>
    obtain ⟨k, hk, rfl, hown, hbel⟩ := hrel
    by_cases hlt : k < n
    · have d0 := hown.cell hlt
      have z0 := hown.frozen k
      have R := hown.set k (-1)
      have S := hbel.setCell (p := ⟨w.heap.size, k, none⟩) (Nat.le_refl _) (.int .i64 (-1))
      clear hown
      go_wp2
      go_roundw
      case rel =>
        refine ⟨k + 1, by omega, by go_num, R.congr (fun j hj => ?_), S⟩
        by_cases e : j = k
        · subst e; simp
        · simp only [if_neg e]
          by_cases hl : j < k
          · rw [if_pos hl, if_pos (by omega)]
          · rw [if_neg hl, if_neg (by omega)]
      case measure => simp [intOf]; omega
    have hkn : k = n := by omega
    subst hkn
    have hown0 := hown.congr (g := rk P (-1) 0) (fun j hj => by simp [rk, hj])
    clear hown
    go_wp2
    go_loopw [25] (fun i wq => ∃ m : Nat, m ≤ k ∧ i = .int .i64 m ∧ eachB k P m = true ∧ IHas wq w.heap.size k (rk P (-1) m) ∧ Below w.heap.size w wq) (fun i _ => k - (intOf i).toNat)
    case atStart => exact ⟨0, Nat.zero_le _, rfl, rfl, hown0, hbel⟩
    case round =>
      clear hown0 hbel
      obtain ⟨m, hm, rfl, hea, hown, hbel⟩ := hrel
      have HE : Hid (eachB k P m = true) := hea
      clear hea
      by_cases hlt : m < k
      rotate_left
      · have hmk : m = k := by omega
        subst hmk
        have HL : Hid (lenR m P = m) := by
          show lenR m P = m
          by_cases h0 : m = 0
          · subst h0; simp [lenR]
          · have h1 : 1 ≤ m := by omega
            have h24 : m ≤ 24 := by omega
            simp [lenR, okR, HE.out, h1, h24]
        go_wp2
        go_ret
        exact ans_of HL.out ⟨_, _, rfl, fun _ => ⟨_, rfl, Nat.le_refl _, hown⟩, hbel⟩
      obtain ⟨b, o, hao, c0⟩ := (hr.below hbel (Nat.le_refl _)) m hlt
      subst hao
      have hm0 : (0 : Int) ≤ (m : Int) := by omega
      have hmk : (m : Int) < (k : Int) := by omega
      rcases Bool.eq_false_or_eq_true (inB (P m) 0 ((k : Int) - 1)) with hi | hi
      rotate_left
      · have HL : Hid (lenR k P = 0) := by
          show lenR k P = 0
          have : eachB k P k = false := eachB_no (k := m) (by simp [eachB, hi]) hlt
          simp [lenR, okR, this]
        go_wp2_with (go_at_call 47; refine (placeOk_any _ _ _).mono ?_; rintro e w1 ⟨rfl, rfl⟩)
        go_ret
        exact ans_of HL.out ⟨_, _, rfl, fun h => by omega, hbel.alloc hbel.size _⟩
      have hq0 : 0 ≤ P m ∧ P m ≤ (k : Int) - 1 := by simpa [inB] using hi
      obtain ⟨q, hq⟩ : ∃ q : Nat, P m = (q : Int) := ⟨(P m).toNat, by omega⟩
      have hS : Hid (∀ j, rk P (-1) (m + 1) j = if j = q then (m : Int) else rk P (-1) m j) := rk_at hq
      have hE : Hid (eachB k P (m + 1) = !sn P m q) := eachB_at HE.out hq hi
      rw [hq] at c0 hi hq0
      clear hq
      have hqn : q < k := by omega
      have d0 := hown.cell hqn
      have z0 := hown.frozen q
      have R := hown.set q (m : Int)
      have S := hbel.setCell (p := ⟨w.heap.size, q, none⟩) (Nat.le_refl _) (.int .i64 (m : Int))
      have hqn' : (q : Int) < (k : Int) := by omega
      have hrs := rk_sn P m q
      rcases Bool.eq_false_or_eq_true (sn P m q) with hs | hs
      · have hge : 0 ≤ rk P (-1) m q := hrs.1 hs
        clear hrs
        have HL : Hid (lenR k P = 0) := by
          show lenR k P = 0
          have : eachB k P k = false := eachB_no (k := m) (by rw [hE.out, hs]; rfl) hlt
          simp [lenR, okR, this]
        go_wp2_with (go_at_call 47; refine (placeOk_any _ _ _).mono ?_; rintro e w1 ⟨rfl, rfl⟩)
        go_ret
        exact ans_of HL.out ⟨_, _, rfl, fun h => by omega, hbel.alloc hbel.size _⟩
      · have hge : ¬ 0 ≤ rk P (-1) m q := fun h => by rw [hrs.2 h] at hs; cases hs
        clear hrs hown
        go_wp2_with (go_at_call 47; refine (placeOk_any _ _ _).mono ?_; rintro e w1 ⟨rfl, rfl⟩)
        go_roundw
        case rel => exact ⟨m + 1, by omega, by go_num, by rw [hE.out, hs]; rfl, R.congr (fun j _ => (hS.out j).symm), S⟩
        case measure => simp [intOf]; omega

end Go.Proofs.YteibbknpcgcjjaiGreat

/-
  OrderOk, the document's and the program's, at every map and every list of at most 2^20 numbers.
-/
set_option linter.unusedVariables false
set_option linter.unusedSimpArgs false
namespace Go.Proofs.YteibbknpcgcjjaiGreat
open Go.RowKit
attribute [local go_sem ↓] Go.wp_at_zero Go.wp_at_succ

set_option maxHeartbeats 1000000 in
theorem implOrderOk_any (p : Int) (ao : Option Addr) (n cap : Nat) (F T G : Nat → Int) (po : Option Addr) (m pcap : Nat) (P : Nat → Int) (hn : n ≤ 1048576) (hm : m ≤ 1048576) (w : World) (hr : Row w ao n F T G) (hp : IRow w po m P) :
    Calls Tryz.prog 112 #[.agg #[.int .i64 p, .slice ao n cap], .slice po m pcap] w fun e w' => e = .returned (.bool (ordB p n F T G m P)) ∧ Below w.heap.size w w' := by
  rcases Bool.eq_false_or_eq_true (graphB p n F T G) with h | h
  rotate_left
  · go_enter Tryz.func112, Tryz.ntmps112
    go_wp2_with (go_at_call 132; refine (implGraphOk_any p ao n cap F T G hn _ (hr.alloc _)).mono ?_; rintro e w1 ⟨rfl, hb1⟩)
    go_ret
    exact ⟨ret_bool (by simp [ordB, h]), unbox hb1 (by simp)⟩
  rcases Bool.eq_false_or_eq_true ((m : Int) == p) with h2 | h2
  rotate_left
  · go_enter Tryz.func112, Tryz.ntmps112
    go_wp2_with (go_at_call 132; refine (implGraphOk_any p ao n cap F T G hn _ (hr.alloc _)).mono ?_; rintro e w1 ⟨rfl, hb1⟩; obtain ⟨hc, hf⟩ := bcell hb1)
    go_ret
    exact ⟨ret_bool (by simp only [ordB, h, h2]; rfl), unbox hb1 (by simp)⟩
  have hL : ((lenR m P : Int) == (m : Int)) = okR m P := by
    have hp1 : 1 ≤ p ∧ p ≤ 24 := by
      simp [graphB, inB] at h
      omega
    have hmp : (m : Int) = p := by simpa using h2
    unfold lenR
    cases hk : okR m P
    · rw [Bool.eq_false_iff]; simp; omega
    · simp
  have HL : Hid (((lenR m P : Int) == (m : Int)) = okR m P) := hL
  clear hL
  go_enter Tryz.func112, Tryz.ntmps112
  go_wp2_with (first | (go_at_call 132; refine (implGraphOk_any p ao n cap F T G hn _ (hr.alloc _)).mono ?_; rintro e w1 ⟨rfl, hb1⟩; obtain ⟨hc, hf⟩ := bcell hb1) | (go_at_call 48; refine (implRanks_any po m pcap P hm _ ((hp.alloc _).below hb1 (Nat.le_refl _))).mono ?_; rintro e w2 ⟨aoR, capR, rfl, _, hb2⟩))
  go_ret
  exact ⟨ret_bool (by rw [HL.out]; simp only [ordB, h, h2]; rfl), unbox (below_next hb1 (Nat.le_refl _) hb2) (by simp)⟩

end Go.Proofs.YteibbknpcgcjjaiGreat

/-
  The program's generic sort, with the edges' comparison: the same edges, in their order. For lists of at most a million edges.
-/
set_option linter.unusedVariables false
set_option linter.unusedSimpArgs false
namespace Go.Proofs.YteibbknpcgcjjaiGreat
open Go.RowKit
attribute [local go_sem ↓] Go.wp_at_zero Go.wp_at_succ

/-- The front part is in its order, x has been put into it behind a. -/
theorem srt_put {a d : List Pr} {x : Pr} (h : Srt (a ++ d)) (hd : ∀ e ∈ d, lt2 x e) (ha : a = [] ∨ ∃ a' y, a = a' ++ [y] ∧ ¬ lt2 x y) : Srt (a ++ x :: d) := by
  unfold Srt at h ⊢
  rw [List.pairwise_append] at h ⊢
  refine ⟨h.1, ?_, fun e he f hf => ?_⟩
  · rw [List.pairwise_cons]
    refine ⟨fun e he hlt => ?_, h.2.1⟩
    exact lt2_irr x (lt2_trans (hd e he) hlt)
  · simp at hf
    rcases hf with rfl | hf
    · rcases ha with rfl | ⟨a', y, rfl, hy⟩
      · simp at he
      · rw [List.mem_append] at he
        rcases he with he | he
        · have := h.1
          rw [List.pairwise_append] at this
          exact le2_trans (this.2.2 e he y (by simp)) hy
        · simp at he
          subst he; exact hy
    · exact h.2.2 e he f hf

theorem put_perm {a d pre suf l : List Pr} {x : Pr} {k : Nat} (had : a ++ d = pre) (hk : pre.length = k) (h : (pre ++ x :: suf).Perm l) : (a ++ x :: d).length = k + 1 ∧ (a ++ x :: d ++ suf).Perm l := by
  subst had
  refine ⟨by simp at hk ⊢; omega, List.Perm.trans ?_ h⟩
  have e1 : a ++ x :: d ++ suf = a ++ x :: (d ++ suf) := by simp
  have e2 : a ++ d ++ x :: suf = (a ++ d) ++ x :: suf := rfl
  rw [e1]
  refine List.perm_middle.trans (List.Perm.trans ?_ List.perm_middle.symm)
  rw [List.append_assoc]
theorem gr_drewN' (w : World) (n : Nat) (row : Option Nat) : w.grownBy (w.drewN n) row := ⟨rfl, rfl, rfl, Nat.le_refl _, fun _ _ _ => rfl⟩

set_option maxRecDepth 100000 in
set_option maxHeartbeats 4000000 in
theorem sortBy_any (g cap : Nat) (l : List Pr) (hn : l.length ≤ 1000000) (w : World) (hl : ELies w g l) :
    Calls Tryz.prog 136 #[.slice (some ⟨g, 0, none⟩) l.length cap, .func (.func 137) #[] #[]] w fun e w' => e = .returned (.tuple #[]) ∧ (∃ l' : List Pr, l'.length = l.length ∧ l'.Perm l ∧ Srt l' ∧ ELies w' g l') ∧ w.grownBy w' (some g) := by
  go_enter Tryz.func136, Tryz.ntmps136
  go_wp2
  go_loopw [4] (fun x wr => ∃ (k : Nat) (pre suf : List Pr), x = .int .i64 k ∧ 1 ≤ k ∧ pre.length = min k l.length ∧ pre.length + suf.length = l.length ∧ (pre ++ suf).Perm l ∧ Srt pre ∧ ELies wr g (pre ++ suf) ∧ w.grownBy wr (some g)) (fun x _ => l.length - (intOf x).toNat)
  case atStart =>
    match l, hl with
    | [], hl => exact ⟨1, [], [], rfl, Nat.le_refl _, by simp, rfl, List.Perm.refl _, List.Pairwise.nil, hl, World.grownBy.refl _ _⟩
    | x :: t, hl => exact ⟨1, [x], t, rfl, Nat.le_refl _, by simp, by simp; omega, List.Perm.refl _, by simp [Srt], hl, World.grownBy.refl _ _⟩
  case round =>
    obtain ⟨k, pre, suf, rfl, hk1, hpk, hps, hperm, hsrt, hE, hg⟩ := hrel
    by_cases hlt : k < l.length
    rotate_left
    · have hsuf : suf = [] := List.eq_nil_of_length_eq_zero (by omega)
      subst hsuf
      rw [List.append_nil] at hE hperm
      have hlen : pre.length = l.length := by simpa using hps
      go_wp2
      simp [bodyPost, results, Tryz.results136, go_sem]
      exact ⟨⟨pre, hlen, hperm, hsrt, hE⟩, hg⟩
    have hpk' : pre.length = k := by omega
    match suf, hps with
    | [], hps => simp at hps; omega
    | x :: suf', hps =>
    have HP : Hid ((pre ++ x :: suf').Perm l) := hperm
    clear hperm hpk
    go_wp2
    go_loopw [5] (fun y wq => ∃ (i : Nat) (a d : List Pr), y = .int .i64 i ∧ a.length = i ∧ a ++ d = pre ∧ (∀ e ∈ d, lt2 x e) ∧ ELies wq g (a ++ x :: (d ++ suf')) ∧ w.grownBy wq (some g)) (fun y _ => (intOf y).toNat)
    case atStart => exact ⟨k, pre, [], rfl, hpk', List.append_nil _, fun e he => by simp at he, by simpa using hE, hg⟩
    case round =>
      clear hE hg
      obtain ⟨i, a, d, rfl, hai, had, hdx, hE, hg⟩ := hrel
      by_cases hi : 0 < i
      rotate_left
      · have hd : decide ((0 : Int) < (i : Int)) = false := by simp; omega
        have ha0 : a = [] := List.eq_nil_of_length_eq_zero (by omega)
        have HN : Hid (Srt (a ++ x :: d)) := srt_put (by rw [had]; exact hsrt) hdx (Or.inl ha0)
        have hpl : Hid ((a ++ x :: d).length = k + 1 ∧ (a ++ x :: d ++ suf').Perm l) := put_perm had hpk' HP.out
        have hE' : ELies wr g (a ++ x :: d ++ suf') := by simpa using hE
        go_wp2
        go_quiet (fail)
        go_wp2
        go_roundw
        case rel =>
          have := hpl.out
          exact ⟨k + 1, a ++ x :: d, suf', by go_num, by omega, by omega, by simp at hps; omega, this.2, HN.out, EHas.of_block hE' rfl, hg.trans (gr_drewN' _ _ _)⟩
        case measure => simp [intOf]; omega
      have hane : a ≠ [] := fun e => by subst e; simp at hai; omega
      obtain ⟨a', y, haa⟩ : ∃ a' y, a = a' ++ [y] := ⟨a.dropLast, a.getLast hane, (List.dropLast_concat_getLast hane).symm⟩
      have ha1 : a'.length = i - 1 := by rw [haa] at hai; simp at hai; omega
      have hx := hE.at
      rw [hai] at hx
      obtain ⟨c0, c1⟩ := hx
      have hE2 : ELies wr g (a' ++ y :: x :: (d ++ suf')) := by rw [haa] at hE; simpa using hE
      have hy := hE2.at
      rw [ha1] at hy
      obtain ⟨d0, d1⟩ := hy
      have hin : i < l.length := by
        have := congrArg List.length had
        simp at this
        omega
      have hkd : decide ((0 : Int) < (i : Int)) = true := by simp; omega
      have hi0 : (0 : Int) ≤ (i : Int) := by omega
      have hi2 : (i : Int) < (l.length : Int) := by omega
      have hk1' : (0 : Int) ≤ (i : Int) - 1 := by omega
      have hk2 : (i : Int) - 1 < (l.length : Int) := by omega
      have hk3 : IntKind.i64.wrap ((i : Int) - 1) = (i : Int) - 1 := by rw [IntKind.wrap_i64]; omega
      have hk4 : ((i : Int) - 1).toNat = i - 1 := by omega
      have hk5 : (1 : Int) ≤ (i : Int) := by omega
      have hk6 : (i : Int) ≤ (l.length : Int) := by omega
      have hk7 : 1 ≤ i := by omega
      have hcu := cmpE_up x.1 x.2 y.1 y.2
      have hg1 : w.grownBy wr.drew (some g) := hg.trans ⟨rfl, rfl, rfl, Nat.le_refl _, fun _ _ _ => rfl⟩
      by_cases hlt2 : lt2 x y
      · have hge : cmpE x.1 x.2 y.1 y.2 < 0 := hcu.2 hlt2
        clear hcu
        go_wp2
        go_region_held3 (fun w' => w'.cell? ⟨g, i * 2, none⟩ = some (.int .i64 x.1) ∧ w'.cell? ⟨g, i * 2 + 1, none⟩ = some (.int .i64 x.2) ∧ w'.cell? ⟨g, (i - 1) * 2, none⟩ = some (.int .i64 y.1) ∧ w'.cell? ⟨g, (i - 1) * 2 + 1, none⟩ = some (.int .i64 y.2))
          (first | (go_split_ands; refine ⟨?_, ?_, ?_, ?_⟩ <;> exact keep_cell hb2 (Nat.le_refl _) (by assumption)) | go_keep)
          (first | (go_at_call 137; refine (compareEdges_any _ _ _ _ _).mono ?_; rintro e w2 ⟨rfl, hb2⟩))
        have hg2 : w.grownBy w2 (some g) := hg1.trans ⟨hb2.os, hb2.tape, hb2.output, hb2.size, fun k hk _ => hb2.block k hk⟩
        have hE3 : ELies w2 g (a' ++ y :: x :: (d ++ suf')) := EHas.next (w := wr.drew) (EHas.of_block hE2 rfl) hb2
        have k0 : w2.cell? ⟨g, i * 2, none⟩ = some (.int .i64 x.1) := keep_cell hb2 (Nat.le_refl _) (by exact c0)
        have k1 : w2.cell? ⟨g, i * 2 + 1, none⟩ = some (.int .i64 x.2) := keep_cell hb2 (Nat.le_refl _) (by exact c1)
        have k2 : w2.cell? ⟨g, (i - 1) * 2, none⟩ = some (.int .i64 y.1) := keep_cell hb2 (Nat.le_refl _) (by exact d0)
        have k3 : w2.cell? ⟨g, (i - 1) * 2 + 1, none⟩ = some (.int .i64 y.2) := keep_cell hb2 (Nat.le_refl _) (by exact d1)
        have z0 := EHas.frozen hE3 (i * 2)
        have z1 := EHas.frozen hE3 (i * 2 + 1)
        have z2 := EHas.frozen hE3 ((i - 1) * 2)
        have z3 := EHas.frozen hE3 ((i - 1) * 2 + 1)
        have hii : a'.length + 1 = i := by omega
        have HR : Hid (ELies ((((w2.setCell ⟨g, i * 2, none⟩ (.int .i64 y.1)).setCell ⟨g, i * 2 + 1, none⟩ (.int .i64 y.2)).setCell ⟨g, (i - 1) * 2, none⟩ (.int .i64 x.1)).setCell ⟨g, (i - 1) * 2 + 1, none⟩ (.int .i64 x.2)) g (a' ++ x :: y :: (d ++ suf'))) := by
          have h4 := (((EHas.set hE3 (i * 2) y.1).set (i * 2 + 1) y.2).set ((i - 1) * 2) x.1).set ((i - 1) * 2 + 1) x.2
          have hlen : (a' ++ y :: x :: (d ++ suf')).length = (a' ++ x :: y :: (d ++ suf')).length := by simp
          rw [hlen] at h4
          refine EHas.congr h4 (fun j _ => ?_)
          have := er_swap a' (d ++ suf') x y j
          rw [hii, ha1] at this
          exact this
        have HG : Hid (w.grownBy ((((w2.setCell ⟨g, i * 2, none⟩ (.int .i64 y.1)).setCell ⟨g, i * 2 + 1, none⟩ (.int .i64 y.2)).setCell ⟨g, (i - 1) * 2, none⟩ (.int .i64 x.1)).setCell ⟨g, (i - 1) * 2 + 1, none⟩ (.int .i64 x.2)) (some g)) := (((hg2.trans (gr_setCell _ g _ _)).trans (gr_setCell _ g _ _)).trans (gr_setCell _ g _ _)).trans (gr_setCell _ g _ _)
        have HX : Hid ((∀ e ∈ y :: d, lt2 x e) ∧ a' ++ (y :: d) = pre) := ⟨fun e he => by
          simp at he
          rcases he with rfl | he
          · exact hlt2
          · exact hdx e he, by rw [← had, haa]; simp⟩
        have n1 : ¬ ((i - 1) * 2 = i * 2) := by omega
        have n2 : ¬ ((i - 1) * 2 = i * 2 + 1) := by omega
        have n3 : ¬ ((i - 1) * 2 + 1 = i * 2) := by omega
        have n4 : ¬ ((i - 1) * 2 + 1 = i * 2 + 1) := by omega
        clear hE hE2 hE3 hg hg1 hg2 hb2 c0 c1 d0 d1 hdx had haa hane hlt2 hge
        go_wp2
        go_big_region
        go_wp2
        go_roundw
        case rel => exact ⟨i - 1, a', y :: d, by rw [show ((i - 1 : Nat) : Int) = (i : Int) - 1 by omega], ha1, HX.out.2, HX.out.1, EHas.of_block HR.out rfl, HG.out.trans ⟨rfl, rfl, rfl, Nat.le_refl _, fun _ _ _ => rfl⟩⟩
        case measure => simp [intOf]; omega
      · have hge : ¬ cmpE x.1 x.2 y.1 y.2 < 0 := fun h => hlt2 (hcu.1 h)
        have hged : decide (cmpE x.1 x.2 y.1 y.2 < 0) = false := by simpa using hge
        clear hcu
        have HN : Hid (Srt (a ++ x :: d)) := srt_put (by rw [had]; exact hsrt) hdx (Or.inr ⟨a', y, haa, hlt2⟩)
        have hpl : Hid ((a ++ x :: d).length = k + 1 ∧ (a ++ x :: d ++ suf').Perm l) := put_perm had hpk' HP.out
        have hE' : ELies wr g (a ++ x :: d ++ suf') := by simpa using hE
        go_wp2
        go_region_held3 (fun w' => w'.cell? ⟨g, i * 2, none⟩ = some (.int .i64 x.1) ∧ w'.cell? ⟨g, i * 2 + 1, none⟩ = some (.int .i64 x.2) ∧ w'.cell? ⟨g, (i - 1) * 2, none⟩ = some (.int .i64 y.1) ∧ w'.cell? ⟨g, (i - 1) * 2 + 1, none⟩ = some (.int .i64 y.2))
          (first | (go_split_ands; refine ⟨?_, ?_, ?_, ?_⟩ <;> exact keep_cell hb2 (Nat.le_refl _) (by assumption)) | go_keep)
          (first | (go_at_call 137; refine (compareEdges_any _ _ _ _ _).mono ?_; rintro e w2 ⟨rfl, hb2⟩))
        have hg2 : w.grownBy w2 (some g) := hg1.trans ⟨hb2.os, hb2.tape, hb2.output, hb2.size, fun k hk _ => hb2.block k hk⟩
        have hE3 : ELies w2 g (a ++ x :: d ++ suf') := EHas.next (w := wr.drew) (EHas.of_block hE' rfl) hb2
        clear hE hE2 hE' hg hg1 hb2 c0 c1 d0 d1
        go_wp2
        go_roundw
        case rel =>
          have := hpl.out
          exact ⟨k + 1, a ++ x :: d, suf', by go_num, by omega, by omega, by simp at hps; omega, this.2, HN.out, hE3, hg2⟩
        case measure => simp [intOf]; omega

end Go.Proofs.YteibbknpcgcjjaiGreat

/-
  The program's mesh in memory: read, written; two places joined, two places parted.
-/
set_option linter.unusedVariables false
set_option linter.unusedSimpArgs false
namespace Go.Proofs.YteibbknpcgcjjaiGreat
open Go.RowKit
attribute [local go_sem ↓] Go.wp_at_zero Go.wp_at_succ

/-- The cells of a mesh: how many places, a square of 24 rows, who is gone. -/
def meshV (p : Int) (B : Nat → Nat → Bool) (gone : Nat → Bool) (j : Nat) : Value := if j = 0 then .int .i64 p else if j < 577 then .bool (B ((j - 1) / 24) ((j - 1) % 24)) else .bool (gone (j - 577))
def MeshAt (w : World) (bm : Nat) (p : Int) (B : Nat → Nat → Bool) (gone : Nat → Bool) : Prop := VHas w bm 203 601 (meshV p B gone)
theorem MeshAt.places {w : World} {bm : Nat} {p : Int} {B : Nat → Nat → Bool} {gone : Nat → Bool} (h : MeshAt w bm p B gone) : w.cell? ⟨bm, 0, none⟩ = some (.int .i64 p) := by
  rw [VHas.cell h (by omega)]; rfl
theorem MeshAt.at {w : World} {bm : Nat} {p : Int} {B : Nat → Nat → Bool} {gone : Nat → Bool} (h : MeshAt w bm p B gone) {x y : Nat} (hx : x < 24) (hy : y < 24) : w.cell? ⟨bm, 1 + x * 24 + y, none⟩ = some (.bool (B x y)) := by
  rw [VHas.cell h (by omega)]
  unfold meshV
  rw [if_neg (by omega), if_pos (by omega)]
  have h1 : (1 + x * 24 + y - 1) / 24 = x := by omega
  have h2 : (1 + x * 24 + y - 1) % 24 = y := by omega
  rw [h1, h2]
theorem MeshAt.gone {w : World} {bm : Nat} {p : Int} {B : Nat → Nat → Bool} {gone : Nat → Bool} (h : MeshAt w bm p B gone) {x : Nat} (hx : x < 24) : w.cell? ⟨bm, 577 + x, none⟩ = some (.bool (gone x)) := by
  rw [VHas.cell h (by omega)]
  unfold meshV
  rw [if_neg (by omega), if_neg (by omega)]
  have h1 : 577 + x - 577 = x := by omega
  rw [h1]
theorem MeshAt.put {w : World} {bm : Nat} {p : Int} {B : Nat → Nat → Bool} {gone : Nat → Bool} (h : MeshAt w bm p B gone) {x y : Nat} (hx : x < 24) (hy : y < 24) (v : Bool) : MeshAt (w.setCell ⟨bm, 1 + x * 24 + y, none⟩ (.bool v)) bm p (upd B x y v) gone := by
  refine (VHas.set h (1 + x * 24 + y) (.bool v)).congr (fun j hj => ?_)
  by_cases e : j = 1 + x * 24 + y
  · subst e
    rw [if_pos rfl]
    unfold meshV upd
    have h1 : (1 + x * 24 + y - 1) / 24 = x := by omega
    have h2 : (1 + x * 24 + y - 1) % 24 = y := by omega
    rw [if_neg (by omega), if_pos (by omega), h1, h2, if_pos ⟨rfl, rfl⟩]
  · rw [if_neg e]
    unfold meshV upd
    by_cases h0 : j = 0
    · rw [if_pos h0, if_pos h0]
    · rw [if_neg h0, if_neg h0]
      by_cases h1 : j < 577
      · rw [if_pos h1, if_pos h1, if_neg (by omega)]
      · rw [if_neg h1, if_neg h1]
theorem MeshAt.go {w : World} {bm : Nat} {p : Int} {B : Nat → Nat → Bool} {gone : Nat → Bool} (h : MeshAt w bm p B gone) {x : Nat} (hx : x < 24) : MeshAt (w.setCell ⟨bm, 577 + x, none⟩ (.bool true)) bm p B (goneU gone x) := by
  refine (VHas.set h (577 + x) (.bool true)).congr (fun j hj => ?_)
  by_cases e : j = 577 + x
  · subst e
    rw [if_pos rfl]
    unfold meshV goneU
    have h1 : 577 + x - 577 = x := by omega
    rw [if_neg (by omega), if_neg (by omega), h1, if_pos rfl]
  · rw [if_neg e]
    unfold meshV goneU
    by_cases h0 : j = 0
    · rw [if_pos h0, if_pos h0]
    · rw [if_neg h0, if_neg h0]
      by_cases h1 : j < 577
      · rw [if_pos h1, if_pos h1]
      · rw [if_neg h1, if_neg h1, if_neg (by omega)]
theorem MeshAt.same {w : World} {bm : Nat} {p : Int} {B B' : Nat → Nat → Bool} {gone : Nat → Bool} (h : MeshAt w bm p B gone) (e : ∀ x y, x < 24 → y < 24 → B x y = B' x y) : MeshAt w bm p B' gone := by
  refine VHas.congr h (fun j hj => ?_)
  unfold meshV
  by_cases h0 : j = 0
  · rw [if_pos h0, if_pos h0]
  · rw [if_neg h0, if_neg h0]
    by_cases h1 : j < 577
    · rw [if_pos h1, if_pos h1, e _ _ (by omega) (by omega)]
    · rw [if_neg h1, if_neg h1]

set_option maxHeartbeats 1000000 in
theorem join_any (bm a b : Nat) (p : Int) (B : Nat → Nat → Bool) (gone : Nat → Bool) (ha : a < 24) (hb : b < 24) (hne : a ≠ b) (w : World) (h : MeshAt w bm p B gone) :
    Calls Tryz.prog 145 #[.pointer (some ⟨bm, 0, none⟩), .int .i64 (a : Int), .int .i64 (b : Int)] w fun e w' => e = .returned (.tuple #[]) ∧ MeshAt w' bm p (upd2 B a b true) gone ∧ w.grownBy w' (some bm) := by
  have d0 := h.at ha hb
  have z0 := VHas.frozen h (1 + a * 24 + b)
  have d1 := h.at hb ha
  have z1 := VHas.frozen h (1 + b * 24 + a)
  have n1 : ¬ 1 + a * 24 + b = 1 + b * 24 + a := by omega
  have n2 : ¬ 1 + b * 24 + a = 1 + a * 24 + b := by omega
  have ha' : (a : Int) < 24 := by omega
  have hb' : (b : Int) < 24 := by omega
  go_enter Tryz.func145, Tryz.ntmps145
  go_wp2
  simp [bodyPost, results, Tryz.results145, go_sem]
  exact ⟨(h.put ha hb true).put hb ha true, (gr_setCell w bm (1 + a * 24 + b) (.bool true)).trans (gr_setCell _ bm (1 + b * 24 + a) (.bool true))⟩

set_option maxHeartbeats 1000000 in
theorem part_any (bm a b : Nat) (p : Int) (B : Nat → Nat → Bool) (gone : Nat → Bool) (ha : a < 24) (hb : b < 24) (hne : a ≠ b) (w : World) (h : MeshAt w bm p B gone) :
    Calls Tryz.prog 147 #[.pointer (some ⟨bm, 0, none⟩), .int .i64 (a : Int), .int .i64 (b : Int)] w fun e w' => e = .returned (.tuple #[]) ∧ MeshAt w' bm p (upd2 B a b false) gone ∧ w.grownBy w' (some bm) := by
  have d0 := h.at ha hb
  have z0 := VHas.frozen h (1 + a * 24 + b)
  have d1 := h.at hb ha
  have z1 := VHas.frozen h (1 + b * 24 + a)
  have n1 : ¬ 1 + a * 24 + b = 1 + b * 24 + a := by omega
  have n2 : ¬ 1 + b * 24 + a = 1 + a * 24 + b := by omega
  have ha' : (a : Int) < 24 := by omega
  have hb' : (b : Int) < 24 := by omega
  go_enter Tryz.func147, Tryz.ntmps147
  go_wp2
  simp [bodyPost, results, Tryz.results147, go_sem]
  exact ⟨(h.put ha hb false).put hb ha false, (gr_setCell w bm (1 + a * 24 + b) (.bool false)).trans (gr_setCell _ bm (1 + b * 24 + a) (.bool false))⟩

/-- A new mesh's cells. -/
def isF : Option Value → Bool
  | some (.bool b) => !b
  | _ => false
set_option maxRecDepth 100000 in
theorem zero_cells : (List.range 601).all (fun j => j == 0 || isF (Tryz.zeroCells203[j]?)) = true := by kernel_rfl
set_option maxRecDepth 100000 in
theorem zero_size : Tryz.zeroCells203.size = 601 := by kernel_rfl
theorem mesh_new (w : World) (p : Int) : MeshAt (w.alloc (.cells (Tryz.zeroCells203.setIfInBounds 0 (.int .i64 p)) 203)) w.heap.size p (fun _ _ => false) (fun _ => false) := by
  refine ⟨_, Go.Deep.blk_alloc_new _ _, by rw [Array.size_setIfInBounds, zero_size]; exact Nat.le_refl _, fun j hj => ?_⟩
  unfold meshV
  by_cases h0 : j = 0
  · subst h0
    rw [if_pos rfl, Array.getElem?_setIfInBounds_self_of_lt (by rw [zero_size]; omega)]
  · rw [if_neg h0, Array.getElem?_setIfInBounds_ne (fun e => h0 e.symm)]
    have := List.all_eq_true.1 zero_cells j (List.mem_range.2 hj)
    have hz : (j == 0) = false := by simpa using h0
    rw [hz, Bool.false_or] at this
    have e : Tryz.zeroCells203[j]? = some (.bool false) := by
      generalize Tryz.zeroCells203[j]? = o at this
      cases o with
      | none => cases this
      | some v =>
        cases v <;> first | (simp [isF] at this; done) | (simp [isF] at this; subst this; rfl)
    rw [e]
    split <;> rfl

set_option maxHeartbeats 1000000 in
theorem meshOf_any (p : Nat) (ao : Option Addr) (n cap : Nat) (F T G : Nat → Int) (hp : p ≤ 24) (hn : n ≤ 100) (hF : ∀ k, k < n → 0 ≤ F k ∧ F k < (p : Int)) (hT : ∀ k, k < n → 0 ≤ T k ∧ T k < (p : Int)) (hFT : ∀ k, k < n → F k ≠ T k) (w : World) (hr : Row w ao n F T G) :
    Calls Tryz.prog 133 #[.agg #[.int .i64 (p : Int), .slice ao n cap]] w fun e w' => ∃ bm, e = .returned (.pointer (some ⟨bm, 0, none⟩)) ∧ w.heap.size ≤ bm ∧ MeshAt w' bm (p : Int) (nbA F T n) (fun _ => false) ∧ Below w.heap.size w w' := by
  go_enter Tryz.func133, Tryz.ntmps133
  go_wp2
  go_loopw [13] (fun i wr => ∃ k : Nat, k ≤ n ∧ i = .int .i64 k ∧ MeshAt wr (w.heap.size + 1) (p : Int) (nbA F T k) (fun _ => false) ∧ Below (w.heap.size + 1) (w.alloc (.cells #[.int .i64 (p : Int), .slice ao n cap] 38)) wr) (fun i _ => n - (intOf i).toNat)
  case atStart => exact ⟨0, Nat.zero_le _, rfl, by have := mesh_new (w.alloc (.cells #[.int .i64 (p : Int), .slice ao n cap] 38)) (p : Int); simp only [World.size_alloc] at this; exact this, (Below.refl _ _).alloc (by simp) _⟩
  case round =>
    obtain ⟨k, hk, rfl, hM, hbel⟩ := hrel
    have hml := VHas.lt hM
    by_cases hlt : k < n
    rotate_left
    · have hkn : k = n := by omega
      subst hkn
      go_wp2
      go_ret
      exact ⟨_, rfl, by omega, hM, unbox hbel (by omega)⟩
    obtain ⟨b, o, hao, c0, c1, c2⟩ := ((hr.alloc _).below hbel (by simp)) k hlt
    subst hao
    have hf0 := hF k hlt
    have ht0 := hT k hlt
    have hne0 := hFT k hlt
    obtain ⟨f, hf⟩ : ∃ f : Nat, F k = (f : Int) := ⟨(F k).toNat, by omega⟩
    obtain ⟨t, ht⟩ : ∃ t : Nat, T k = (t : Int) := ⟨(T k).toNat, by omega⟩
    have hst : Hid (nbA F T (k + 1) = upd2 (nbA F T k) f t true) := by
      show upd2 (nbA F T k) (F k).toNat (T k).toNat true = _
      rw [hf, ht]; rfl
    rw [hf] at c0 hf0 hne0
    rw [ht] at c1 ht0 hne0
    clear hf ht
    have hft : f ≠ t := by omega
    have hal := (Below.refl wr.heap.size wr).alloc (Nat.le_refl _) (.cells #[.int .i64 (f : Int), .int .i64 (t : Int), .int .i64 (G k)] 125)
    have hj := join_any (w.heap.size + 1) f t (p : Int) _ _ (by omega) (by omega) hft _ (VHas.next hM hal)
    have hB2 := below_next hbel (by simp) hal
    clear hM hbel
    go_wp2_with (go_at_call 145; refine hj.mono ?_; rintro e w2 ⟨rfl, hM2, hg2⟩)
    go_roundw
    case rel => exact ⟨k + 1, by omega, by go_num, by rw [hst.out]; exact hM2, hB2.trans (gr_below hg2 (Nat.le_refl _) (by have := hB2.size; simpa using this))⟩
    case measure => simp [intOf]; omega

end Go.Proofs.YteibbknpcgcjjaiGreat

/-
  A range over a function whose rounds write what the function reads between them: the caller's own invariant tells the function what lies there. Two laws: for a loop that stands alone and for one in a round of another; no round leaves early.
-/
set_option linter.unusedVariables false
set_option linter.unusedSimpArgs false
namespace Go.Proofs.YteibbknpcgcjjaiGreat
open Go Go.RowKit

section
variable {F : Fence} {n m : Nat} {P : Program}

/-- One call of yield: the record is ready, the body ends in the ordinary way and leaves it busy. -/
theorem yield_of {l : Nat} {r : Loop} {args : Array Value} {W : World} {R : Ending → World → Prop} (hl : W.heap[l]? = some (.loop r)) (hs : args.size = r.params.size) (hr : r.state = .ready) (hp : r.pending = none) (hfn : F.fn r.fn)
    (h : r.assign.wpIn (F.inRound l) m P (Exit.then (fun a' Wa => Wa.heap[l]? = some (.loop r) ∧ r.body.wpIn (F.inRound l) m P (fun e _ W3 => e = .normal ∧ W3.heap[l]? = some (.loop { r with state := .busy }) ∧ R (.returned (.bool true)) (W3.putObj l (.loop r))) a' (Wa.putObj l (.loop { r with state := .busy }))) (fun _ _ _ => False))
      { tmps := (r.params.zip args).foldl (fun t (p, v) => t.setIfInBounds p v) r.tmps, defers := [] } W) : YieldAt F m P l args W R := by
  refine ⟨_, _, _, _, run_yield hl hs, roundIn_of_wpIn hfn (wpIn_mono h ?_)⟩
  intro e a' Wa hh
  cases e with
  | normal =>
    obtain ⟨h1, h2⟩ := hh
    refine ⟨_, run_beginRound h1 hr, wpIn_mono h2 ?_⟩
    rintro e3 a3 W3 ⟨rfl, h3, h4⟩
    refine ⟨_, _, run_endRound none h3, ?_⟩
    have e : ({ { r with state := .busy } with state := if (none : Option Code).isNone then .ready else .done, pending := none } : Loop) = r := by
      cases r; simp_all
    rw [e]
    exact h4
  | _ => exact hh

/-- How a round's body ends: ordinarily; what is no cells and lies from B on lies as it lay; the invariant holds one further. -/
def roundQ {α : Type} (B : Nat) (I : List α → World → Prop) (xs : List α) (W : World) : Exit → Act → World → Prop := fun e _ W' => e = .normal ∧ KeepsFrom B W W' ∧ I xs W'

/-- What the function that is ranged over owes: called with the yield of loop l, whatever J that tells I, it hands over elements that are asked for (G) till S. -/
def SeqAt {α : Type} (F : Fence) (n : Nat) (P : Program) (gf : Nat) (lb : Array Value) (encs : α → Array Value) (I : List α → World → Prop) (G : List α → α → Prop) (S : List α → Prop) (w : World) : Prop :=
  ∀ (l : Nat) (J : List α → World → Prop) (W : World), Below w.heap.size w W → AbidesFrom W.heap.size J → (∀ pre W1, J pre W1 → I pre W1) →
    (∀ pre x W1, J pre W1 → G pre x → YieldAt F (n - 1) P l (encs x) W1 fun e W' => e = .returned (.bool true) ∧ J (pre ++ [x]) W') → J [] W →
    CallsIn F n P gf (#[.func (.yield l) #[] #[]] ++ lb) W fun e W' => (∃ v, e = .returned v) ∧ ∃ xs, S xs ∧ J xs W'

/-- A round, its bookkeeping done: the record's block l lies from B on. -/
theorem round_of {α : Type} {B l : Nat} {r : Loop} {encs : α → Array Value} {x : α} {pre : List α} {W : World} {I : List α → World → Prop} {Ax : α → Act → World → Prop} (hI : OwnFrom B I) (hAx : ∀ a', OwnFrom B (fun (_ : Unit) W => Ax x a' W))
    (hB : B ≤ l) (hl : W.heap[l]? = some (.loop r)) (hs : (encs x).size = r.params.size) (hr : r.state = .ready) (hp : r.pending = none) (hfn : F.fn r.fn) (hi : I pre W)
    (hassign : ∀ K : Act → World → Prop, (∀ a' W', KeepsFrom B W W' → I pre W' → Ax x a' W' → K a' W') →
      r.assign.wpIn (F.inRound l) m P (Exit.then K (fun _ _ _ => False)) { tmps := (r.params.zip (encs x)).foldl (fun t (p, v) => t.setIfInBounds p v) r.tmps, defers := [] } W)
    (hbody : ∀ (a' : Act) (W' : World), (∃ r, W'.heap[l]? = some (.loop r)) → I pre W' → Ax x a' W' → r.body.wpIn (F.inRound l) m P (roundQ B I (pre ++ [x]) W') a' W')
    {R : World → Prop} (hR : ∀ W', I (pre ++ [x]) W' → W'.heap[l]? = some (.loop r) → (∀ k o, B ≤ k → k ≠ l → W.heap[k]? = some o → o.isCells = false → W'.heap[k]? = some o) → R W') :
    YieldAt F m P l (encs x) W fun e W' => e = .returned (.bool true) ∧ R W' := by
  refine yield_of hl hs hr hp hfn (hassign _ ?_)
  intro a' Wa hk hia hax
  have hla := hk.same l _ hB hl rfl
  have hlt := (Array.getElem?_eq_some_iff.1 hla).1
  have hl2 : (Wa.putObj l (.loop { r with state := .busy })).heap[l]? = some (.loop { r with state := .busy }) := World.putObj_heap_same hlt
  refine ⟨hla, wpIn_mono (hbody a' _ ⟨_, hl2⟩ (hI.putObj _ hia hB hla rfl) ((hAx a').putObj (s := ()) _ hax hB hla rfl)) ?_⟩
  rintro e a3 W3 ⟨rfl, hk3, hi3⟩
  have hl3 := hk3.same l _ hB hl2 rfl
  refine ⟨rfl, hl3, rfl, hR _ (hI.putObj _ hi3 hB hl3 rfl) (World.putObj_heap_same (Array.getElem?_eq_some_iff.1 hl3).1) ?_⟩
  intro k o hBk hne h0 ho
  rw [World.putObj_heap_other hne]
  refine hk3.same k o hBk ?_ ho
  rw [World.putObj_heap_other hne]
  exact hk.same k o hBk h0 ho

/-- THE LAW for a loop that stands alone. -/
theorem range_alone {α : Type} {g : Operand} {ps : Array Tmp} {assign body : Code} {Q : Exit → Act → World → Prop} {a : Act} {w : World}
    (hro : F.round = none) (h1 : 1 ≤ n) {gf : Nat} {lb : Array Value} (hg : a.eval g = .func (.func gf) #[] lb) (hFg : F.fn gf) (eg : ∀ args w, (callFunc gf args).run P w = .ok (.enter gf args) w)
    {encs : α → Array Value} (hps : ∀ x, (encs x).size = ps.size) (I : List α → World → Prop) (hI : OwnFrom w.heap.size I) (h0 : I [] w) {G : List α → α → Prop} {S : List α → Prop} (hseq : SeqAt F (n - 1) P gf lb encs I G S w)
    (Ax : α → Act → World → Prop) (hAx : ∀ x a', OwnFrom w.heap.size (fun (_ : Unit) W => Ax x a' W))
    (hassign : ∀ (l : Nat) (pre : List α) (x : α) (W : World) (K : Act → World → Prop), I pre W → G pre x → (∀ a' W', KeepsFrom w.heap.size W W' → I pre W' → Ax x a' W' → K a' W') →
      assign.wpIn (F.inRound l) (n - 1 - 1) P (Exit.then K (fun _ _ _ => False)) { tmps := (ps.zip (encs x)).foldl (fun t (p, v) => t.setIfInBounds p v) a.tmps, defers := [] } W)
    (hbody : ∀ (l : Nat) (pre : List α) (x : α) (a' : Act) (W : World), w.heap.size ≤ l → (∃ r, W.heap[l]? = some (.loop r)) → I pre W → G pre x → Ax x a' W → body.wpIn (F.inRound l) (n - 1 - 1) P (roundQ w.heap.size I (pre ++ [x]) W) a' W)
    (hdone : ∀ (D : Nat) (xs : List α) (W : World), w.heap.size ≤ D → S xs → I xs W → W.heap[D]? = some (.deferred (some [])) → Q .normal { a with defers := { target := .collected D, args := #[] } :: a.defers } W) :
    (Code.rangeFunc g ps assign body).wpIn F n P Q a w := by
  refine wpIn_rangeFunc fun fn hfn => ?_
  rw [hro]
  obtain ⟨r, hr⟩ : ∃ r : Loop, r = { state := .ready, pending := none, fn, tmps := a.tmps, params := ps, assign, body, defers := w.heap.size } := ⟨_, rfl⟩
  have hen := run_enterLoop_outer (P := P) (w := w) fn a.tmps ps assign body
  rw [← hr] at hen
  have hb : Below w.heap.size w ((w.alloc (.deferred (some []))).alloc (.loop r)) := ((Below.refl _ w).alloc (Nat.le_refl _) _).alloc (by simp) _
  have hL : ((w.alloc (.deferred (some []))).alloc (.loop r)).heap[w.heap.size + 1]? = some (.loop r) := by
    have := World.alloc_heap_new (w.alloc (.deferred (some []))) (.loop r)
    rwa [World.size_alloc] at this
  have hD : ((w.alloc (.deferred (some []))).alloc (.loop r)).heap[w.heap.size]? = some (.deferred (some [])) := (Below.heap_alloc _ _ _ (by simp)).trans (World.alloc_heap_new w _)
  have hi := hI.alloc (.loop r) (hI.alloc (.deferred (some [])) h0)
  have hsz : ((w.alloc (.deferred (some []))).alloc (.loop r)).heap.size = w.heap.size + 2 := by simp
  generalize (w.alloc (.deferred (some []))).alloc (.loop r) = W1 at hb hL hD hi hsz hen
  refine ⟨w.heap.size + 1, [{ target := .collected w.heap.size, args := #[] }], W1, { target := .fn (.func gf) lb, args := #[.func (.yield (w.heap.size + 1)) #[] #[]] }, W1, gf, #[.func (.yield (w.heap.size + 1)) #[] #[]] ++ lb, W1, hen, ?_, ?_, ?_, fun _ => h1, ?_⟩
  · simp only [resolve, hg]
    simp [go_sem]
  · intro f' hf'
    simp [Target.leads] at hf'
    subst hf'
    exact hFg
  · simp [invoke, go_sem, eg]
  refine (hseq (w.heap.size + 1) (fun pre W => I pre W ∧ W.heap[w.heap.size + 1]? = some (.loop r) ∧ W.heap[w.heap.size]? = some (.deferred (some []))) W1 hb ?_ (fun _ _ h => h.1) ?_ ⟨hi, hL, hD⟩).mono ?_
  · rintro s A B row ⟨hs, hl, hd⟩ hg' hrow
    have hw' : ∀ r, row = some r → ∃ o : Obj, A.heap[r]? = some o ∧ o.isWalk = true := fun r e => (hrow r e).2
    refine ⟨hI s A B row hs hg' (fun j e => ?_), (grownBy_keeps hg' hw' hl rfl).trans hl, (grownBy_keeps hg' hw' hd rfl).trans hd⟩
    obtain ⟨hj, o, ho, hwo⟩ := hrow j e
    exact ⟨by omega, o, ho, Obj.not_cells_of_walk hwo⟩
  · rintro pre x W ⟨hi', hl', hd'⟩ hG
    refine round_of hI (hAx x) (by omega) hl' (by rw [hr]; exact hps x) (by rw [hr]) (by rw [hr]) (by rw [hr]; exact hfn) hi' ?_ ?_ ?_
    · intro K hK
      have := hassign (w.heap.size + 1) pre x W K hi' hG hK
      rw [hr]
      exact this
    · intro a' W' hrec hi2 hax
      have := hbody (w.heap.size + 1) pre x a' W' (by omega) hrec hi2 hG hax
      rw [hr]
      exact this
    · intro W' hi3 hl3 hrest
      exact ⟨hi3, hl3, hrest _ _ (Nat.le_refl _) (by omega) hd' rfl⟩
  · rintro e W2 ⟨⟨v, rfl⟩, xs, hS, hi2, hl2, hd2⟩
    refine ⟨none, _, ?_, hdone _ xs _ (Nat.le_refl _) hS (hI.putObj (.loop { r with state := .exhausted }) hi2 (by omega) hl2 rfl) ((World.putObj_heap_other (by omega)).trans hd2)⟩
    have := run_endLoop (P := P) hl2 (by rw [hr]; simp)
    have e : r.pending = none := by rw [hr]
    rw [e] at this ⊢
    exact this

/-- THE LAW for a loop in a round of loop l₀. -/
theorem range_within {α : Type} {g : Operand} {ps : Array Tmp} {assign body : Code} {Q : Exit → Act → World → Prop} {a : Act} {w : World}
    {l₀ : Nat} {r₀ : Loop} (hro : F.round = some l₀) (hl₀ : w.heap[l₀]? = some (.loop r₀)) (h1 : 1 ≤ n) {gf : Nat} {lb : Array Value} (hg : a.eval g = .func (.func gf) #[] lb) (hFg : F.fn gf) (eg : ∀ args w, (callFunc gf args).run P w = .ok (.enter gf args) w)
    {encs : α → Array Value} (hps : ∀ x, (encs x).size = ps.size) (I : List α → World → Prop) (hI : OwnFrom w.heap.size I) (h0 : I [] w) {G : List α → α → Prop} {S : List α → Prop} (hseq : SeqAt F (n - 1) P gf lb encs I G S w)
    (Ax : α → Act → World → Prop) (hAx : ∀ x a', OwnFrom w.heap.size (fun (_ : Unit) W => Ax x a' W))
    (hassign : ∀ (l : Nat) (pre : List α) (x : α) (W : World) (K : Act → World → Prop), I pre W → G pre x → (∀ a' W', KeepsFrom w.heap.size W W' → I pre W' → Ax x a' W' → K a' W') →
      assign.wpIn (F.inRound l) (n - 1 - 1) P (Exit.then K (fun _ _ _ => False)) { tmps := (ps.zip (encs x)).foldl (fun t (p, v) => t.setIfInBounds p v) a.tmps, defers := [] } W)
    (hbody : ∀ (l : Nat) (pre : List α) (x : α) (a' : Act) (W : World), w.heap.size ≤ l → (∃ r, W.heap[l]? = some (.loop r)) → I pre W → G pre x → Ax x a' W → body.wpIn (F.inRound l) (n - 1 - 1) P (roundQ w.heap.size I (pre ++ [x]) W) a' W)
    (hdone : ∀ (xs : List α) (W : World), S xs → I xs W → Q .normal a W) :
    (Code.rangeFunc g ps assign body).wpIn F n P Q a w := by
  refine wpIn_rangeFunc fun fn hfn => ?_
  rw [hro]
  obtain ⟨r, hr⟩ : ∃ r : Loop, r = { state := .ready, pending := none, fn, tmps := a.tmps, params := ps, assign, body, defers := r₀.defers } := ⟨_, rfl⟩
  have hen := run_enterLoop_inner (P := P) hl₀ fn a.tmps ps assign body
  rw [← hr] at hen
  have hb : Below w.heap.size w (w.alloc (.loop r)) := (Below.refl _ w).alloc (Nat.le_refl _) _
  have hL : (w.alloc (.loop r)).heap[w.heap.size]? = some (.loop r) := World.alloc_heap_new w _
  have hi := hI.alloc (.loop r) h0
  have hsz : (w.alloc (.loop r)).heap.size = w.heap.size + 1 := by simp
  generalize w.alloc (.loop r) = W1 at hb hL hi hsz hen
  refine ⟨w.heap.size, [], W1, { target := .fn (.func gf) lb, args := #[.func (.yield w.heap.size) #[] #[]] }, W1, gf, #[.func (.yield w.heap.size) #[] #[]] ++ lb, W1, hen, ?_, ?_, ?_, fun _ => h1, ?_⟩
  · simp only [resolve, hg]
    simp [go_sem]
  · intro f' hf'
    simp [Target.leads] at hf'
    subst hf'
    exact hFg
  · simp [invoke, go_sem, eg]
  refine (hseq w.heap.size (fun pre W => I pre W ∧ W.heap[w.heap.size]? = some (.loop r)) W1 hb ?_ (fun _ _ h => h.1) ?_ ⟨hi, hL⟩).mono ?_
  · rintro s A B row ⟨hs, hl⟩ hg' hrow
    have hw' : ∀ r, row = some r → ∃ o : Obj, A.heap[r]? = some o ∧ o.isWalk = true := fun r e => (hrow r e).2
    refine ⟨hI s A B row hs hg' (fun j e => ?_), (grownBy_keeps hg' hw' hl rfl).trans hl⟩
    obtain ⟨hj, o, ho, hwo⟩ := hrow j e
    exact ⟨by omega, o, ho, Obj.not_cells_of_walk hwo⟩
  · rintro pre x W ⟨hi', hl'⟩ hG
    refine round_of hI (hAx x) (Nat.le_refl _) hl' (by rw [hr]; exact hps x) (by rw [hr]) (by rw [hr]) (by rw [hr]; exact hfn) hi' ?_ ?_ ?_
    · intro K hK
      have := hassign w.heap.size pre x W K hi' hG hK
      rw [hr]
      exact this
    · intro a' W' hrec hi2 hax
      have := hbody w.heap.size pre x a' W' (Nat.le_refl _) hrec hi2 hG hax
      rw [hr]
      exact this
    · intro W' hi3 hl3 _
      exact ⟨hi3, hl3⟩
  · rintro e W2 ⟨⟨v, rfl⟩, xs, hS, hi2, hl2⟩
    refine ⟨none, _, ?_, hdone xs _ hS (hI.putObj (.loop { r with state := .exhausted }) hi2 (Nat.le_refl _) hl2 rfl)⟩
    have := run_endLoop (P := P) hl2 (by rw [hr]; simp)
    have e : r.pending = none := by rw [hr]
    rw [e] at this ⊢
    exact this
end

end Go.Proofs.YteibbknpcgcjjaiGreat

/-
  The program's iterator over the neighbours of a place: what it hands over, whatever the rounds do, as long as its own row can be read.
-/
set_option linter.unusedVariables false
set_option linter.unusedSimpArgs false
namespace Go.Proofs.YteibbknpcgcjjaiGreat
open Go.RowKit Go.Shelf
attribute [local go_sem] Oper.semAt_some

theorem neighbours_any (bm : Nat) (place : Int) (w : World) :
    Calls Tryz.prog 134 #[.pointer (some ⟨bm, 0, none⟩), .int .i64 place] w fun e w' => e = .returned (.func (.func 146) #[] #[.pointer (some ⟨w.heap.size, 0, none⟩), .pointer (some ⟨w.heap.size + 1, 0, none⟩)]) ∧ w' = (w.alloc (.cells #[.pointer (some ⟨bm, 0, none⟩)] 181)).alloc (.cells #[.int .i64 place] 2) := by
  go_enter Tryz.func134, Tryz.ntmps134
  go_wp2
  go_ret
  exact ⟨rfl, rfl⟩
/-- What the iterator reads: its two boxes, how many places, the row of its place. -/
structure Reads (bM bP bm p place : Nat) (W : World) (f : Nat → Bool) : Prop where
  rdM : W.cell? ⟨bM, 0, none⟩ = some (.pointer (some ⟨bm, 0, none⟩))
  rdP : W.cell? ⟨bP, 0, none⟩ = some (.int .i64 (place : Int))
  rdN : W.cell? ⟨bm, 0, none⟩ = some (.int .i64 (p : Int))
  rdR : ∀ j, j < 24 → W.cell? ⟨bm, 1 + place * 24 + j, none⟩ = some (.bool (f j))
set_option maxRecDepth 100000 in
set_option maxHeartbeats 2000000 in
theorem iter_core (n : Nat) (hn : 1 ≤ n) (l bM bP bm p place : Nat) (hp : p ≤ 24) (hpl : place < 24) (J Jx : List Nat → World → Prop) (bits : List Nat → Nat → Bool) (W : World) (hJ : AbidesFrom W.heap.size J)
    (hRd : ∀ pre W1, J pre W1 → Reads bM bP bm p place W1 (bits pre))
    (hY : ∀ k W1, k < p → bits (vis bits k) k = true → J (vis bits k) W1 → YieldAt Fence.wide (n - 1) Tryz.prog l #[.int .i64 (k : Int)] W1 fun e W' => (e = .returned (.bool true) ∧ J (vis bits k ++ [k]) W') ∨ (e = .returned (.bool false) ∧ Jx (vis bits k ++ [k]) W'))
    (h0 : J [] W) :
    CallsIn Fence.wide n Tryz.prog 146 #[.func (.yield l) #[] #[], .pointer (some ⟨bM, 0, none⟩), .pointer (some ⟨bP, 0, none⟩)] W fun e W' => (∃ v, e = .returned v) ∧ (J (vis bits p) W' ∨ ∃ k, k < p ∧ bits (vis bits k) k = true ∧ Jx (vis bits k ++ [k]) W') := by
  obtain ⟨r1, r2, r3, r4⟩ := hRd _ _ h0
  refine callsIn_of_wp Tryz.func146 rfl trivial ?_ rfl
  simp only [Tryz.ntmps146, List.size_toArray, List.length_cons, List.length_nil, Nat.reduceAdd, Nat.reduceSub, Array.replicate_succ, Array.replicate_zero, List.push_toArray, List.append_toArray, List.nil_append, List.cons_append]
  gi_wp2
  clear r1 r2 r3 r4
  gi_loopw [9] (fun i wr => ∃ k : Nat, k ≤ p ∧ i = .int .i64 k ∧ J (vis bits k) wr) (fun i _ => p - (intOf i).toNat)
  case atStart => exact ⟨0, Nat.zero_le _, rfl, h0⟩
  case round =>
    obtain ⟨k, hk, rfl, hJk⟩ := hrel
    by_cases hlt : k < p
    rotate_left
    · have hkp : k = p := by omega
      subst hkp
      gi_wp2
      go_end0
      exact ⟨⟨_, rfl⟩, .inl hJk⟩
    have hlt' : (k : Int) < (p : Int) := by omega
    obtain ⟨r1, r2, r3, r4⟩ := hRd _ _ hJk
    have r5 := r4 k (by omega)
    have hpl' : (place : Int) < 24 := by omega
    have hk24 : (k : Int) < 24 := by omega
    cases hb : bits (vis bits k) k
    · have hv : Hid (vis bits (k + 1) = vis bits k) := by
        show (if bits (vis bits k) k then _ else _) = _
        rw [hb]; rfl
      rw [hb] at r5
      clear r4
      gi_wp2
      refine wpIn_region_quiet_lit rfl (by kernel_rfl) (by kernel_rfl) ?_
      repeat (gi_big_quiet_step (fail))
      refine BigFrame.wpQuietIn_skip (fun _ _ _ _ => trivial) rfl ?_
      simp only [go_sem, Act.put, List.setIfInBounds_toArray, List.set_cons_succ, List.set_cons_zero]
      repeat (gi_big_quiet_step (fail))
      refine wpQuietIn_nil ?_
      intro _ hw'
      obtain ⟨nq, hw''⟩ := hw'
      subst hw''
      gi_wp2
      go_roundw
      case rel => exact ⟨k + 1, by omega, by go_num, by rw [hv.out]; exact hJ _ _ _ none hJk ⟨rfl, rfl, rfl, Nat.le_refl _, fun _ _ _ => rfl⟩ (fun r e => by cases e)⟩
      case measure => simp [intOf]; omega
    · have hv : Hid (vis bits (k + 1) = vis bits k ++ [k]) := by
        show (if bits (vis bits k) k then _ else _) = _
        rw [hb]; rfl
      rw [hb] at r5
      clear r4
      obtain ⟨fn, tmps, assign, body, hy, hR⟩ := hY k wr.drew hlt hb (hJ _ _ _ none hJk ⟨rfl, rfl, rfl, Nat.le_refl _, fun _ _ _ => rfl⟩ (fun r e => by cases e))
      have hR' := hR.mono (R' := fun e W' => ∃ b : Bool, e = .returned (.bool b) ∧ ((b = true ∧ J (vis bits k ++ [k]) W') ∨ (b = false ∧ Jx (vis bits k ++ [k]) W'))) (fun e W' h => by
        rcases h with ⟨h1, h2⟩ | ⟨h1, h2⟩
        · exact ⟨true, h1, .inl ⟨rfl, h2⟩⟩
        · exact ⟨false, h1, .inr ⟨rfl, h2⟩⟩)
      clear hR
      gi_wp2
      gi_region_with (refine hR'.mono ?_; rintro e W3 ⟨b, rfl, hor⟩)
      all_goals
        rcases hor with ⟨rfl, hJ3⟩ | ⟨rfl, hJx3⟩
        · gi_wp2
          go_roundw
          case rel => exact ⟨k + 1, by omega, by go_num, by rw [hv.out]; exact hJ3⟩
          case measure => simp [intOf]; omega
        · gi_wp2
          refine bodyPost_ret (results_none rfl _ _ _) rfl ?_
          exact ⟨⟨_, rfl⟩, .inr ⟨k, hlt, hb, hJx3⟩⟩

end Go.Proofs.YteibbknpcgcjjaiGreat

/-
  The program's count of a place's neighbours, which leaves off at a limit.
-/
set_option linter.unusedVariables false
set_option linter.unusedSimpArgs false
namespace Go.Proofs.YteibbknpcgcjjaiGreat
open Go.RowKit Go.Shelf
attribute [local go_sem] Oper.semAt_some

theorem Reads.grown {bM bP bm p place : Nat} {W W' : World} {f : Nat → Bool} {row : Option Nat} (h : Reads bM bP bm p place W f) (hg : W.grownBy W' row) (hr : ∀ r, row = some r → ∃ o : Obj, W.heap[r]? = some o ∧ o.isCells = false) : Reads bM bP bm p place W' f :=
  ⟨cell_kept h.rdM hg hr, cell_kept h.rdP hg hr, cell_kept h.rdN hg hr, fun j hj => cell_kept (h.rdR j hj) hg hr⟩
theorem Reads.of_mesh {bM bP bm p place : Nat} {W : World} {B : Nat → Nat → Bool} {gone : Nat → Bool} (hp : place < 24) (h1 : W.cell? ⟨bM, 0, none⟩ = some (.pointer (some ⟨bm, 0, none⟩))) (h2 : W.cell? ⟨bP, 0, none⟩ = some (.int .i64 (place : Int))) (h : MeshAt W bm (p : Int) B gone) : Reads bM bP bm p place W (B place) :=
  ⟨h1, h2, h.places, fun j hj => h.at hp hj⟩
/-- Over a row that no round turns: all that are there, in their order; or a part, where a round has said 'no more'. -/
theorem iter_stops (n : Nat) (hn : 1 ≤ n) (bM bP bm p place : Nat) (f : Nat → Bool) (hp : p ≤ 24) (hpl : place < 24) (w : World) (hR : Reads bM bP bm p place w f) :
    SeqStopsK Fence.wide n Tryz.prog 146 #[.pointer (some ⟨bM, 0, none⟩), .pointer (some ⟨bP, 0, none⟩)] (fun x : Nat => #[Value.int .i64 (x : Int)]) (fun W W' => Reads bM bP bm p place W f → Reads bM bP bm p place W' f) (fun xs => xs = visF f p) (fun pre => ∃ k, k < p ∧ f k = true ∧ pre = visF f k ++ [k]) 25 w := fun l J Jx W hW hJ hJx hY h0 => by
  have hRW : Reads bM bP bm p place W f := hR.grown (row := none) ⟨hW.os, hW.tape, hW.output, hW.size, fun k hk _ => hW.block k hk⟩ (fun r e => by cases e)
  refine (iter_core n hn l bM bP bm p place hp hpl (fun pre W => J pre W ∧ Reads bM bP bm p place W f) Jx (fun _ => f) W ?_ (fun _ _ h => h.2) ?_ ⟨h0, hRW⟩).mono ?_
  · rintro s A B row ⟨h1, h2⟩ hg hr
    exact ⟨hJ s A B row h1 hg hr, h2.grown hg (fun r e => by obtain ⟨_, o, ho, hw⟩ := hr r e; exact ⟨o, ho, Obj.not_cells_of_walk hw⟩)⟩
  · rintro k W1 hk hb ⟨h1, h2⟩
    obtain ⟨fn, tmps, assign, body, hy, hR1⟩ := hY (visF f k) k W1 h1 (by rw [visF_len]; have := cntB_le f k; omega)
    refine ⟨fn, tmps, assign, body, hy, hR1.mono ?_⟩
    rintro e W' (⟨h3, h4, h5⟩ | ⟨h3, h4⟩)
    · exact .inl ⟨h3, h4, h5 h2⟩
    · exact .inr ⟨h3, h4⟩
  · rintro e W' ⟨hv, (⟨h1, _⟩ | ⟨k, hk, hb, h1⟩)⟩
    · exact ⟨hv, .inl ⟨_, rfl, h1⟩⟩
    · exact ⟨hv, .inr ⟨_, ⟨k, hk, hb, rfl⟩, h1⟩⟩

end Go.Proofs.YteibbknpcgcjjaiGreat
