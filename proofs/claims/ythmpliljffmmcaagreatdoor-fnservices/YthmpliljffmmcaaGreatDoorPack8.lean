/-
  Helpers: Sort, RoundAny.
-/
import Derived.Test.YthmpliljffmmcaaGreatDoorPack1
import Derived.Test.YthmpliljffmmcaaGreatDoorPack3
import Derived.Test.YthmpliljffmmcaaGreatDoorPack7
import Derived.Test.YthmpliljffmmcaaGreatDoorPack2
import Derived.BigRegion
import Derived.Test.YthmpliljffmmcaaGreatDoorPack6
import Derived.OrdersHeld
import Derived.Deep.RegionHeld
set_option linter.unusedVariables false
set_option linter.unusedSimpArgs false
namespace Go.Proofs.YthmpliljffmmcaaGreatDoor
section
open Go.RowKit
attribute [local go_sem ↓] Go.wp_at_zero Go.wp_at_succ
theorem srt_put {a d : List Pr} {x : Pr} (h : Srt (a ++ d)) (hd : ∀ e ∈ d, lt2 x e) (ha : a = [] ∨ ∃ a' y, a = a' ++ [y] ∧ ¬ lt2 x y) : Srt (a ++ x :: d) := by
  unfold Srt at h ⊢
  rw [List.pairwise_append] at h ⊢
  refine ⟨h.1, ?_, fun e he f hf => ?_⟩
  · rw [List.pairwise_cons]
    refine ⟨fun e he hlt => ?_, h.2.1⟩
    exact lt2_irr x (lt2_trans (hd e he) hlt)
  · simp at hf
    rcases hf with rfl | hf
    · rcases ha with rfl | ⟨a', y, rfl, hy⟩
      · simp at he
      · rw [List.mem_append] at he
        rcases he with he | he
        · have := h.1
          rw [List.pairwise_append] at this
          exact le2_trans (this.2.2 e he y (by simp)) hy
        · simp at he
          subst he; exact hy
    · exact h.2.2 e he f hf
theorem put_perm {a d pre suf l : List Pr} {x : Pr} {k : Nat} (had : a ++ d = pre) (hk : pre.length = k) (h : (pre ++ x :: suf).Perm l) : (a ++ x :: d).length = k + 1 ∧ (a ++ x :: d ++ suf).Perm l := by
  subst had
  refine ⟨by simp at hk ⊢; omega, List.Perm.trans ?_ h⟩
  have e1 : a ++ x :: d ++ suf = a ++ x :: (d ++ suf) := by simp
  have e2 : a ++ d ++ x :: suf = (a ++ d) ++ x :: suf := rfl
  rw [e1]
  refine List.perm_middle.trans (List.Perm.trans ?_ List.perm_middle.symm)
  rw [List.append_assoc]
theorem gr_drewN' (w : World) (n : Nat) (row : Option Nat) : w.grownBy (w.drewN n) row := ⟨rfl, rfl, rfl, Nat.le_refl _, fun _ _ _ => rfl⟩
set_option maxRecDepth 100000 in
set_option maxHeartbeats 4000000 in
theorem sortBy_any (g cap : Nat) (l : List Pr) (hn : l.length ≤ 1000000) (w : World) (hl : ELies w g l) :
    Calls Tryz.prog 82 #[.slice (some ⟨g, 0, none⟩) l.length cap, .func (.func 83) #[] #[]] w fun e w' => e = .returned (.tuple #[]) ∧ (∃ l' : List Pr, l'.length = l.length ∧ l'.Perm l ∧ Srt l' ∧ ELies w' g l') ∧ w.grownBy w' (some g) := by
  go_enter Tryz.func82, Tryz.ntmps82
  go_wp2
  go_loopw [4] (fun x wr => ∃ (k : Nat) (pre suf : List Pr), x = .int .i64 k ∧ 1 ≤ k ∧ pre.length = min k l.length ∧ pre.length + suf.length = l.length ∧ (pre ++ suf).Perm l ∧ Srt pre ∧ ELies wr g (pre ++ suf) ∧ w.grownBy wr (some g)) (fun x _ => l.length - (intOf x).toNat)
  case atStart =>
    match l, hl with
    | [], hl => exact ⟨1, [], [], rfl, Nat.le_refl _, by simp, rfl, List.Perm.refl _, List.Pairwise.nil, hl, World.grownBy.refl _ _⟩
    | x :: t, hl => exact ⟨1, [x], t, rfl, Nat.le_refl _, by simp, by simp; omega, List.Perm.refl _, by simp [Srt], hl, World.grownBy.refl _ _⟩
  case round =>
    obtain ⟨k, pre, suf, rfl, hk1, hpk, hps, hperm, hsrt, hE, hg⟩ := hrel
    by_cases hlt : k < l.length
    rotate_left
    · have hsuf : suf = [] := List.eq_nil_of_length_eq_zero (by omega)
      subst hsuf
      rw [List.append_nil] at hE hperm
      have hlen : pre.length = l.length := by simpa using hps
      go_wp2
      simp [bodyPost, results, Tryz.results82, go_sem]
      exact ⟨⟨pre, hlen, hperm, hsrt, hE⟩, hg⟩
    have hpk' : pre.length = k := by omega
    match suf, hps with
    | [], hps => simp at hps; omega
    | x :: suf', hps =>
    have HP : Hid ((pre ++ x :: suf').Perm l) := hperm
    clear hperm hpk
    go_wp2
    go_loopw [5] (fun y wq => ∃ (i : Nat) (a d : List Pr), y = .int .i64 i ∧ a.length = i ∧ a ++ d = pre ∧ (∀ e ∈ d, lt2 x e) ∧ ELies wq g (a ++ x :: (d ++ suf')) ∧ w.grownBy wq (some g)) (fun y _ => (intOf y).toNat)
    case atStart => exact ⟨k, pre, [], rfl, hpk', List.append_nil _, fun e he => by simp at he, by simpa using hE, hg⟩
    case round =>
      clear hE hg
      obtain ⟨i, a, d, rfl, hai, had, hdx, hE, hg⟩ := hrel
      by_cases hi : 0 < i
      rotate_left
      · have hd : decide ((0 : Int) < (i : Int)) = false := by simp; omega
        have ha0 : a = [] := List.eq_nil_of_length_eq_zero (by omega)
        have HN : Hid (Srt (a ++ x :: d)) := srt_put (by rw [had]; exact hsrt) hdx (Or.inl ha0)
        have hpl : Hid ((a ++ x :: d).length = k + 1 ∧ (a ++ x :: d ++ suf').Perm l) := put_perm had hpk' HP.out
        have hE' : ELies wr g (a ++ x :: d ++ suf') := by simpa using hE
        go_wp2
        go_quiet (fail)
        go_wp2
        go_roundw
        case rel =>
          have := hpl.out
          exact ⟨k + 1, a ++ x :: d, suf', by go_num, by omega, by omega, by simp at hps; omega, this.2, HN.out, EHas.of_block hE' rfl, hg.trans (gr_drewN' _ _ _)⟩
        case measure => simp [intOf]; omega
      have hane : a ≠ [] := fun e => by subst e; simp at hai; omega
      obtain ⟨a', y, haa⟩ : ∃ a' y, a = a' ++ [y] := ⟨a.dropLast, a.getLast hane, (List.dropLast_concat_getLast hane).symm⟩
      have ha1 : a'.length = i - 1 := by rw [haa] at hai; simp at hai; omega
      have hx := hE.at
      rw [hai] at hx
      obtain ⟨c0, c1⟩ := hx
      have hE2 : ELies wr g (a' ++ y :: x :: (d ++ suf')) := by rw [haa] at hE; simpa using hE
      have hy := hE2.at
      rw [ha1] at hy
      obtain ⟨d0, d1⟩ := hy
      have hin : i < l.length := by
        have := congrArg List.length had
        simp at this
        omega
      have hkd : decide ((0 : Int) < (i : Int)) = true := by simp; omega
      have hi0 : (0 : Int) ≤ (i : Int) := by omega
      have hi2 : (i : Int) < (l.length : Int) := by omega
      have hk1' : (0 : Int) ≤ (i : Int) - 1 := by omega
      have hk2 : (i : Int) - 1 < (l.length : Int) := by omega
      have hk3 : IntKind.i64.wrap ((i : Int) - 1) = (i : Int) - 1 := by rw [IntKind.wrap_i64]; omega
      have hk4 : ((i : Int) - 1).toNat = i - 1 := by omega
      have hk5 : (1 : Int) ≤ (i : Int) := by omega
      have hk6 : (i : Int) ≤ (l.length : Int) := by omega
      have hk7 : 1 ≤ i := by omega
      have hcu := cmpE_up x.1 x.2 y.1 y.2
      have hg1 : w.grownBy wr.drew (some g) := hg.trans ⟨rfl, rfl, rfl, Nat.le_refl _, fun _ _ _ => rfl⟩
      by_cases hlt2 : lt2 x y
      · have hge : cmpE x.1 x.2 y.1 y.2 < 0 := hcu.2 hlt2
        clear hcu
        go_wp2
        go_region_held3 (fun w' => w'.cell? ⟨g, i * 2, none⟩ = some (.int .i64 x.1) ∧ w'.cell? ⟨g, i * 2 + 1, none⟩ = some (.int .i64 x.2) ∧ w'.cell? ⟨g, (i - 1) * 2, none⟩ = some (.int .i64 y.1) ∧ w'.cell? ⟨g, (i - 1) * 2 + 1, none⟩ = some (.int .i64 y.2))
          (first | (go_split_ands; refine ⟨?_, ?_, ?_, ?_⟩ <;> exact keep_cell hb2 nl (by assumption)) | go_keep)
          (first | (go_at_call 83; refine (compareEdges_any _ _ _ _ _).mono ?_; rintro e w2 ⟨rfl, hb2⟩))
        have hg2 : w.grownBy w2 (some g) := hg1.trans ⟨hb2.os, hb2.tape, hb2.output, hb2.size, fun k hk _ => hb2.block k hk⟩
        have hE3 : ELies w2 g (a' ++ y :: x :: (d ++ suf')) := EHas.next (w := wr.drew) (EHas.of_block hE2 rfl) hb2
        have k0 : w2.cell? ⟨g, i * 2, none⟩ = some (.int .i64 x.1) := keep_cell hb2 nl (by exact c0)
        have k1 : w2.cell? ⟨g, i * 2 + 1, none⟩ = some (.int .i64 x.2) := keep_cell hb2 nl (by exact c1)
        have k2 : w2.cell? ⟨g, (i - 1) * 2, none⟩ = some (.int .i64 y.1) := keep_cell hb2 nl (by exact d0)
        have k3 : w2.cell? ⟨g, (i - 1) * 2 + 1, none⟩ = some (.int .i64 y.2) := keep_cell hb2 nl (by exact d1)
        have z0 := EHas.frozen hE3 (i * 2)
        have z1 := EHas.frozen hE3 (i * 2 + 1)
        have z2 := EHas.frozen hE3 ((i - 1) * 2)
        have z3 := EHas.frozen hE3 ((i - 1) * 2 + 1)
        have hii : a'.length + 1 = i := by omega
        have HR : Hid (ELies ((((w2.setCell ⟨g, i * 2, none⟩ (.int .i64 y.1)).setCell ⟨g, i * 2 + 1, none⟩ (.int .i64 y.2)).setCell ⟨g, (i - 1) * 2, none⟩ (.int .i64 x.1)).setCell ⟨g, (i - 1) * 2 + 1, none⟩ (.int .i64 x.2)) g (a' ++ x :: y :: (d ++ suf'))) := by
          have h4 := (((EHas.set hE3 (i * 2) y.1).set (i * 2 + 1) y.2).set ((i - 1) * 2) x.1).set ((i - 1) * 2 + 1) x.2
          have hlen : (a' ++ y :: x :: (d ++ suf')).length = (a' ++ x :: y :: (d ++ suf')).length := by simp
          rw [hlen] at h4
          refine EHas.congr h4 (fun j _ => ?_)
          have := er_swap a' (d ++ suf') x y j
          rw [hii, ha1] at this
          exact this
        have HG : Hid (w.grownBy ((((w2.setCell ⟨g, i * 2, none⟩ (.int .i64 y.1)).setCell ⟨g, i * 2 + 1, none⟩ (.int .i64 y.2)).setCell ⟨g, (i - 1) * 2, none⟩ (.int .i64 x.1)).setCell ⟨g, (i - 1) * 2 + 1, none⟩ (.int .i64 x.2)) (some g)) := (((hg2.trans (gr_setCell _ g _ _)).trans (gr_setCell _ g _ _)).trans (gr_setCell _ g _ _)).trans (gr_setCell _ g _ _)
        have HX : Hid ((∀ e ∈ y :: d, lt2 x e) ∧ a' ++ (y :: d) = pre) := ⟨fun e he => by
          simp at he
          rcases he with rfl | he
          · exact hlt2
          · exact hdx e he, by rw [← had, haa]; simp⟩
        have n1 : ¬ ((i - 1) * 2 = i * 2) := by omega
        have n2 : ¬ ((i - 1) * 2 = i * 2 + 1) := by omega
        have n3 : ¬ ((i - 1) * 2 + 1 = i * 2) := by omega
        have n4 : ¬ ((i - 1) * 2 + 1 = i * 2 + 1) := by omega
        clear hE hE2 hE3 hg hg1 hg2 hb2 c0 c1 d0 d1 hdx had haa hane hlt2 hge
        go_wp2
        go_big_region
        go_wp2
        go_roundw
        case rel => exact ⟨i - 1, a', y :: d, by rw [show ((i - 1 : Nat) : Int) = (i : Int) - 1 by omega], ha1, HX.out.2, HX.out.1, EHas.of_block HR.out rfl, HG.out.trans ⟨rfl, rfl, rfl, Nat.le_refl _, fun _ _ _ => rfl⟩⟩
        case measure => simp [intOf]; omega
      · have hge : ¬ cmpE x.1 x.2 y.1 y.2 < 0 := fun h => hlt2 (hcu.1 h)
        have hged : decide (cmpE x.1 x.2 y.1 y.2 < 0) = false := by simpa using hge
        clear hcu
        have HN : Hid (Srt (a ++ x :: d)) := srt_put (by rw [had]; exact hsrt) hdx (Or.inr ⟨a', y, haa, hlt2⟩)
        have hpl : Hid ((a ++ x :: d).length = k + 1 ∧ (a ++ x :: d ++ suf').Perm l) := put_perm had hpk' HP.out
        have hE' : ELies wr g (a ++ x :: d ++ suf') := by simpa using hE
        go_wp2
        go_region_held3 (fun w' => w'.cell? ⟨g, i * 2, none⟩ = some (.int .i64 x.1) ∧ w'.cell? ⟨g, i * 2 + 1, none⟩ = some (.int .i64 x.2) ∧ w'.cell? ⟨g, (i - 1) * 2, none⟩ = some (.int .i64 y.1) ∧ w'.cell? ⟨g, (i - 1) * 2 + 1, none⟩ = some (.int .i64 y.2))
          (first | (go_split_ands; refine ⟨?_, ?_, ?_, ?_⟩ <;> exact keep_cell hb2 nl (by assumption)) | go_keep)
          (first | (go_at_call 83; refine (compareEdges_any _ _ _ _ _).mono ?_; rintro e w2 ⟨rfl, hb2⟩))
        have hg2 : w.grownBy w2 (some g) := hg1.trans ⟨hb2.os, hb2.tape, hb2.output, hb2.size, fun k hk _ => hb2.block k hk⟩
        have hE3 : ELies w2 g (a ++ x :: d ++ suf') := EHas.next (w := wr.drew) (EHas.of_block hE' rfl) hb2
        clear hE hE2 hE' hg hg1 hb2 c0 c1 d0 d1
        go_wp2
        go_roundw
        case rel =>
          have := hpl.out
          exact ⟨k + 1, a ++ x :: d, suf', by go_num, by omega, by omega, by simp at hps; omega, this.2, HN.out, hE3, hg2⟩
        case measure => simp [intOf]; omega
end
section
open Go
def noDefer (ops : Array Oper) : Bool := ops.all fun o => match o.op with | .defer _ => false | _ => true
theorem noDefer_at {ops : Array Oper} (h : noDefer ops = true) {i : Nat} {o : Oper} (hi : ops[i]? = some o) : ∀ c, o.op ≠ .defer c := fun c e => by
  unfold noDefer at h
  rw [Array.all_eq_true] at h
  obtain ⟨hlt, rfl⟩ := Array.getElem?_eq_some_iff.1 hi
  have := h i hlt
  rw [e] at this
  cases this
theorem oper_in {P : Program} {l n : Nat} {o : Oper} {a : Act} {w : World} {K : Act → World → Prop} {Q : Exit → Act → World → Prop} (hd : ∀ c, o.op ≠ .defer c) (h : o.wp P a w K Q) : o.wpIn (Fence.wide.inRound l) n P a w K Q := by
  refine ⟨fun _ _ => trivial, ?_⟩
  rw [Oper.semAt_plain _ _ _ hd]
  unfold Oper.wp at h
  generalize (execOp a.eval o).run P w = r at h
  cases r with
  | ok x w' =>
    cases x <;> simp only [Oper.upon, Oper.uponIn] at h ⊢ <;>
      first
        | exact h
        | exact ⟨fun hh => by simp [Fence.wide] at hh, CallsIn.inRound l (callsIn_wide.2 h)⟩
        | exact ⟨fun hh => by simp [Fence.wide] at hh, fun c cs _ => let ⟨v, w', r, s⟩ := h c cs; ⟨v, w', r, stepsIn_wide.2 s⟩⟩
        | exact h.elim
  | halt x w' => cases x <;> simp only [Oper.upon, Oper.uponIn] at h ⊢ <;> exact h
theorem any_in {P : Program} {l n : Nat} {md : Region.Mode} {ops : Array Oper} {Q : Exit → Act → World → Prop} (hd : noDefer ops = true) (hL : ¬ LetsOut Q) :
    ∀ (fuel : Nat) (listed : Array Bool) (a : Act) (w : World), wpAny P md ops Q fuel listed a w → wpAnyIn (Fence.wide.inRound l) n P md ops Q fuel listed a w
  | 0, _, _, _, h => h
  | fuel + 1, listed, a, w, h => ⟨h.1, fun i hi => by
    have h2 := h.2 i hi
    unfold wpOp at h2
    unfold wpOpIn
    cases ho : ops[i]? with
    | none =>
      rw [ho] at h2
      exact any_in hd hL fuel _ a w h2
    | some o =>
      rw [ho] at h2
      simp only at h2 ⊢
      by_cases hw : Region.wanted o (yielded ops a.tmps) = true
      · rw [if_pos hw] at h2 ⊢
        rcases h2 with h2 | ⟨_, h2⟩
        · exact Oper.wpIn_mono (fun a' w' h' => any_in hd hL fuel _ a' w' h') (oper_in (noDefer_at hd ho) h2)
        · exact absurd h2 hL
      · rw [if_neg hw] at h2 ⊢
        exact ⟨fun _ _ => trivial, any_in hd hL fuel _ _ w h2⟩⟩
theorem region_round {P : Program} {l n id : Nat} {ops : Array Oper} {Q : Exit → Act → World → Prop} {a : Act} {w : World} (S : World → Prop) (hm : P.follows .mixedOrders = true) (hd : noDefer ops = true) (hL : ¬ LetsOut Q)
    (h : wpAnyH P .any ops Q S ops.size (Array.replicate ops.size false) a w.drew) : (Code.region id ops true).wpIn (Fence.wide.inRound l) n P Q a w :=
  wpIn_region_any hm (any_in hd hL _ _ _ _ (wpAny_of_held _ _ _ _ h))
def marks (Ds : List Nat) : List Deferred := Ds.map fun D => { target := .collected D, args := #[] }
def Marked (w : World) (Ds : List Nat) : Prop := Ds.Nodup ∧ ∀ D ∈ Ds, w.heap[D]? = some (.deferred (some []))
theorem leaves_marks {F : Fence} {n : Nat} {P : Program} {fn : Func} {tmps : Array Value} {R : Ending → World → Prop} : ∀ (Ds : List Nat) (w : World), Marked w Ds →
    (∀ w', w'.os = w.os → w'.tape = w.tape → w'.output = w.output → w'.heap.size = w.heap.size → (∀ k, k ∉ Ds → w'.heap[k]? = w.heap[k]?) → LeavesInM F n P fn tmps R [] .returning w') → LeavesInM F n P fn tmps R (marks Ds) .returning w
  | [], w, _, h => h w rfl rfl rfl rfl (fun _ _ => rfl)
  | D :: Ds, w, ⟨hn, hD⟩, h => by
    rw [List.nodup_cons] at hn
    refine ⟨by simp, .inl ⟨D, _, rfl, run_takeDeferred (hD D (by simp)), ?_⟩⟩
    refine leaves_marks Ds _ ⟨hn.2, fun E hE => ?_⟩ (fun w' h1 h2 h3 h4 h5 => ?_)
    · rw [World.putObj_heap_other (fun e => hn.1 (by rw [← e]; exact hE))]
      exact hD E (by simp [hE])
    · refine h w' h1 h2 h3 (by rw [h4]; simp [World.putObj]) (fun k hk => ?_)
      simp at hk
      rw [h5 k hk.2, World.putObj_heap_other hk.1]
end
end Go.Proofs.YthmpliljffmmcaaGreatDoor
