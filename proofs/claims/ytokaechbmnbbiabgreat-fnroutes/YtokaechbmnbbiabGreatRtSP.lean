/-
  The document's l7Chain: the ranks from where a climb begins up to one.
-/
import Derived.Test.YtokaechbmnbbiabGreatPack14
import Derived.Test.YtokaechbmnbbiabGreatUnJP
import Derived.Test.YtokaechbmnbbiabGreatUnTP
import Derived.Test.YtokaechbmnbbiabGreatPack10
import Derived.Test.YtokaechbmnbbiabGreatMtgTP
set_option linter.unusedVariables false
set_option linter.unusedSimpArgs false
namespace Go.Proofs.YtokaechbmnbbiabGreat
open Go.RowKit Go.Maps Go.Deep Go.Joins
attribute [local go_sem ↓] Go.wp_at_zero Go.wp_at_succ

def chR (D W L H : Nat → Int) (m q : Nat) : List Int := (chE D W L H m q q).reverse.map (fun i => L i) ++ [(q : Int)]
structure ChK (w wr : World) (po : Option Addr) (k pcap : Nat) (eo : Option Addr) (m ecap : Nat) (D W L H : Nat → Int) (Tot : List Int) (q : Nat) (x g c : Nat) (tl : List Int) : Prop where
  bel : Below w.heap.size w wr
  h0 : wr.cell? ⟨w.heap.size, 0, none⟩ = some (.slice po k pcap)
  h1 : wr.cell? ⟨w.heap.size, 1, none⟩ = some (.slice eo m ecap)
  own : LOwn wr (w.heap.size + 1) (some ⟨g, 0, none⟩) c ((x : Int) :: tl)
  tot : (chE D W L H m x x).reverse.map (fun i => L i) ++ ((x : Int) :: tl) = Tot
  xq : x ≤ q
  len : tl.length + x ≤ q
  far : D x < 1000000000000
  sz : w.heap.size + 1 ≤ wr.heap.size

def lenV : Value → Nat
  | .slice _ n _ => n
  | _ => 0
set_option maxRecDepth 100000 in
set_option maxHeartbeats 8000000 in
theorem l7Chain_any (po : Option Addr) (k pcap : Nat) (eo : Option Addr) (m ecap : Nat) (L H : Nat → Int) (wo : Option Addr) (wc : Nat) (W : Nat → Int) (dO : Option Addr) (dc : Nat) (D : Nat → Int) (s q : Nat) (C : Clb k m L H W s D) (hk : k ≤ 24) (hm : m ≤ 1048576) (hq : q < k) (hf : D q < 1000000000000) (w : World) (he : ERow w eo m L H) (hw : IRow w wo m W) (hd : IRow w dO k D) :
    Calls Tryz.prog 75 #[.agg #[.slice po k pcap, .slice eo m ecap], .slice wo m wc, .slice dO k dc, .int .i64 (s : Int), .int .i64 (q : Int)] w fun e w' => ∃ g c, e = .returned (.slice (some ⟨g, 0, none⟩) (chR D W L H m q).length c) ∧ LOwn w' w.heap.size (some ⟨g, 0, none⟩) c (chR D W L H m q) ∧ Below w.heap.size w w' := by
  obtain ⟨Tot, hTot⟩ : ∃ Tot, chR D W L H m q = Tot := ⟨_, rfl⟩
  rw [hTot]
  have ha := (Below.refl w.heap.size w).alloc (Nat.le_refl _) (.cells #[.slice po k pcap, .slice eo m ecap] 30)
  have hb := (Below.refl _ (w.alloc (.cells #[.slice po k pcap, .slice eo m ecap] 30))).alloc (Nat.le_refl _) (.cells #[.int .i64 (q : Int)] 2)
  have K0 : ChK w ((w.alloc (.cells #[.slice po k pcap, .slice eo m ecap] 30)).alloc (.cells #[.int .i64 (q : Int)] 2)) po k pcap eo m ecap D W L H Tot q q (w.heap.size + 1) 1 [] := by
    have O := lown_lit1 (w.alloc (.cells #[.slice po k pcap, .slice eo m ecap] 30)) (base := w.heap.size + 1) (q : Int) (by simp)
    simp only [World.size_alloc] at O
    exact ⟨below_next ha (Nat.le_refl _) hb, by simp [go_sem], by simp [go_sem], O, hTot, Nat.le_refl _, by simp, hf, by simp⟩
  clear ha hb hTot
  go_enter Tryz.func75, Tryz.ntmps75
  go_wp2_with fail
  generalize ((w.alloc (.cells #[.slice po k pcap, .slice eo m ecap] 30)).alloc (.cells #[.int .i64 (q : Int)] 2)) = W3 at K0 ⊢
  go_loopw [11] (fun z wr => ∃ (x g c : Nat) (tl : List Int), z = .slice (some ⟨g, 0, none⟩) (tl.length + 1) c ∧ ChK w wr po k pcap eo m ecap D W L H Tot q x g c tl) (fun z _ => q + 2 - lenV z)
  case atStart => exact ⟨q, _, 1, [], rfl, K0⟩
  case round =>
    clear K0
    obtain ⟨x, g, c, tl, rfl, K⟩ := hrel
    obtain ⟨g', e9, _, hgl, hcl⟩ := K.own.cells (by simp)
    cases e9
    have o0 : wr.cell? ⟨g, 0, none⟩ = some (.int .i64 (x : Int)) := hcl 0 (x : Int) rfl
    have hlq := K.len
    have hxq := K.xq
    by_cases hxs : x = s
    · have hT := K.tot
      rw [hxs, chE_none C.at] at hT
      simp at hT
      have hB := K.bel
      have hO := K.own
      have hxs' : (x : Int) = (s : Int) := by omega
      clear K hcl
      go_wp2
      go_ret
      rw [← hT]
      refine ⟨g, c, by simp, ?_, hB⟩
      rw [← hxs]
      exact hO.from (by omega)
    have hxs' : ¬ ((x : Int) = (s : Int)) := by omega
    have hxs2 : ((x : Int) != (s : Int)) = true := by simp; omega
    obtain ⟨i, hi⟩ := C.ex hxs K.far
    have S := C.step hi
    obtain ⟨hdt, hfi, hdf⟩ := C.doc hi
    obtain ⟨lo, hlo⟩ : ∃ lo, (L i).toNat = lo := ⟨_, rfl⟩
    rw [hlo] at S hdt hfi hdf
    have HEE := he.below K.bel (Nat.le_refl _)
    have HWW := hw.below K.bel (Nat.le_refl _)
    have HDD := hd.below K.bel (Nat.le_refl _)
    have h1 := K.h1
    go_wp2_with fail
    go_loopw [11, 13] (fun z11 z wt => ∃ y : Nat, s ≤ y ∧ y ≤ lo ∧ z11 = .slice (some ⟨g, 0, none⟩) (tl.length + 1) c ∧ z = .int .i64 (y : Int) ∧ Below wr.heap.size wr wt) (fun _ z _ => lo + 1 - (intOf z).toNat)
    case atStart => exact ⟨s, Nat.le_refl _, S.2.2.1, rfl, rfl, Below.refl _ _⟩
    case round =>
      obtain ⟨y, hys, hyl, rfl, rfl, hbt⟩ := hrel
      have hyx : (y : Int) < (x : Int) := by omega
      have h1' := keep_cell hbt (Nat.le_refl _) h1
      go_wp2_with fail
      refine (l4Find_net C.ed eo ecap (y : Int) (x : Int) hm _ (HEE.below hbt (Nat.le_refl _))).mono ?_
      rintro e w5 ⟨r, rfl, hr1, hr2, b5⟩
      replace hbt := below_next hbt (Nat.le_refl _) b5
      clear b5 h1'
      have hHD := HDD.below hbt (Nat.le_refl _)
      have hHW := HWW.below hbt (Nat.le_refl _)
      obtain ⟨bd, od, e9, dy⟩ := hHD y (by omega)
      subst e9
      obtain ⟨bd', od', e9, dx⟩ := hHD x (by omega)
      cases e9
      have hDy := C.inn y
      have hyk : (y : Int) < (k : Int) := by omega
      have hxk : (x : Int) < (k : Int) := by omega
      cases hB : hsB m L H (y : Int) (x : Int) with
      | false =>
        have hrn : ¬ (0 ≤ r) := by have := hr2 hB; omega
        have hrn1 : r < 0 := by omega
        have hrn2 : decide (0 ≤ r) = false := by simp; omega
        have hne : y ≠ lo := fun e => by
          rw [e] at hB
          unfold docT at hdt
          rw [hB] at hdt
          simp at hdt
        clear hr1 hr2
        go_wp2_with fail
        go_quiet (fail)
        go_wp2
        go_roundw
        case rel => exact ⟨y + 1, by omega, by omega, rfl, by go_num, below_drewN hbt nq⟩
        case measure => simp [intOf]; omega
      | true =>
        obtain ⟨rfl, hfm⟩ := hr1 hB
        clear hr1 hr2
        obtain ⟨e0, he0⟩ : ∃ e0, fnd L H (y : Int) (x : Int) m = e0 := ⟨_, rfl⟩
        have HF0 : Hid (fnd L H (y : Int) (x : Int) m = e0) := he0
        rw [he0] at hfm
        simp only [he0]
        clear he0
        obtain ⟨bw, ow, e9, we⟩ := hHW e0 hfm
        subst e9
        have hWe := C.w e0 hfm
        have hem : (e0 : Int) < (m : Int) := by omega
        have HAD : Hid (∀ X, Calls Tryz.prog 55 #[.int .i64 (D y), .int .i64 (W e0)] X fun e w' => e = .returned (.int .i64 (addF (D y) (W e0))) ∧ w' = X) := fun X => l1Add_any (D y) (W e0) hDy.1 hDy.2 hWe.1 hWe.2 X
        by_cases hDF : D y = 1000000000000
        · have hne : y ≠ lo := fun e => by
            unfold docT at hdt
            rw [← e, hDF] at hdt
            simp at hdt
          go_wp2_with fail
          go_quiet (fail)
          go_wp2
          go_roundw
          case rel => exact ⟨y + 1, by omega, by omega, rfl, by go_num, below_drewN hbt nq⟩
          case measure => simp [intOf]; omega
        have hDF' : (D y != 1000000000000) = true := by simp [hDF]
        obtain ⟨sv, hsv⟩ : ∃ sv, addF (D y) (W e0) = sv := ⟨_, rfl⟩
        rw [hsv] at HAD
        by_cases hAE : sv = D x
        rotate_left
        · have hne : y ≠ lo := fun e => by
            unfold docT at hdt
            rw [← e, HF0.out, hsv] at hdt
            simp at hdt
            exact hAE hdt.2.2
          have hAE' : (sv == D x) = false := by simp [hAE]
          go_wp2_with fail
          go_quiet (first | (go_at_call 55; with_reducible refine Calls.quiet_of_same (HAD.out _)) | fail)
          go_wp2
          go_roundw
          case rel => exact ⟨y + 1, by omega, by omega, rfl, by go_num, below_drewN hbt nq⟩
          case measure => simp [intOf]; omega
        have hye : y = lo := by
          rcases Nat.lt_or_ge y lo with h9 | h9
          · have := hdf y h9
            unfold docT at this
            rw [HF0.out, hsv, hB] at this
            simp at this
            exact absurd hAE (this hDF)
          · omega
        have HYE : Hid (y = lo) := hye
        clear hye
        go_wp2_with fail
        go_quiet (first | (go_at_call 55; with_reducible refine Calls.quiet_of_same (HAD.out _)) | fail)
        have hbd := below_drewN (Below.refl w5.heap.size w5) nq
        replace hbt := below_next hbt (Nat.le_refl _) hbd
        clear hbd dy dx we hHD hHW HAD hsv hAE
        generalize w5.drewN nq = w6 at hbt ⊢
        have hs6 := hbt.size
        have hb7 := (Below.refl w6.heap.size w6).alloc (Nat.le_refl _) (.cells #[.int .i64 (y : Int)] 2)
        have hK6 := K.own.next (below_next hbt (Nat.le_refl _) hb7)
        have hksz := K.sz
        have O7 := lown_lit1 w6 (base := w.heap.size + 1) (y : Int) (by omega)
        have hcl7 : ∀ j u, ((x : Int) :: tl)[j]? = some u → (w6.alloc (.cells #[.int .i64 (y : Int)] 2)).cell? ⟨g, 0 + j, none⟩ = some (.int .i64 u) := fun j u hu => by
          rw [Nat.zero_add]
          exact keep_cell (below_next hbt (Nat.le_refl _) hb7) (Nat.le_refl _) (hcl j u hu)
        have hl7 : ((x : Int) :: tl).length = tl.length + 1 := rfl
        go_wp2_with (first | (at_builtin; refine wpList_plain rfl fun K9 hK9 => wp_appL (.tmp 62) (.tmp 63) rfl 64 rfl (w.heap.size + 1) 1 (some ⟨w6.heap.size, 0, none⟩) [(y : Int)] ((x : Int) :: tl) rfl O7 g 0 (tl.length + 1) c hl7 rfl hcl7 (by omega) (by simp) (by omega) (by simp; omega) ?_; intro g9 c9 w9 O9 hg9 hat9; refine hK9 _ _ ?_; have hl1 : ([(y : Int)]).length = 1 := rfl; have hg9' : (w6.alloc (.cells #[.int .i64 (y : Int)] 2)).grownBy w9 (some w6.heap.size) := hg9; obtain ⟨g9', e9, _, _, hcl9⟩ := O9.cells (by simp); cases e9; have o9 : w9.cell? ⟨g9, 0, none⟩ = some (.int .i64 (y : Int)) := hcl9 0 (y : Int) rfl; rw [hl1]) | fail)
        have hye := HYE.out
        have hEi := C.eds i S.1
        have hLi : L i = (y : Int) := by omega
        have hch : chE D W L H m x x = i :: chE D W L H m y y := by
          obtain ⟨x', rfl⟩ : ∃ x', x = x' + 1 := ⟨x - 1, by omega⟩
          rw [chE_some hi, hlo, ← hye, chE_fuel C x' y y (by omega) (Nat.le_refl _)]
        have hT := K.tot
        have hbw9 := gr_below (B := w6.heap.size) hg9' (Nat.le_refl _) (by simp)
        have hb9 := (below_next hbt (Nat.le_refl _) hb7).trans (hbw9.mono hs6)
        have hDl : D y < 1000000000000 := by rw [hye]; exact S.2.2.2.2.2.1
        have hs9 := hbw9.size
        simp only [World.size_alloc] at hs9
        refine ⟨⟨y, g9, c9, (x : Int) :: tl, by simp; omega, ⟨below_next K.bel (Nat.le_refl _) hb9, keep_cell hb9 (Nat.le_refl _) K.h0, keep_cell hb9 (Nat.le_refl _) K.h1, O9, ?_, by omega, by simp; omega, hDl, by omega⟩⟩, by simp [lenV]; omega⟩
        rw [← hT, hch]
        simp [hLi]

end Go.Proofs.YtokaechbmnbbiabGreat
