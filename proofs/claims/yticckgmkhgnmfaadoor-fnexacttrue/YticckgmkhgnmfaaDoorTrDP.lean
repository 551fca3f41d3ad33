/-
  The document's True.
-/
import Derived.Test.YticckgmkhgnmfaaDoorTrJP
import Derived.Test.YticckgmkhgnmfaaDoorPack7
import Derived.Test.YticckgmkhgnmfaaDoorPack1
set_option linter.unusedVariables false
set_option linter.unusedSimpArgs false
namespace Go.Proofs.YticckgmkhgnmfaaDoor
open Go Go.RowKit
attribute [local go_sem ↓] Go.wp_at_zero Go.wp_at_succ

set_option maxRecDepth 100000 in
set_option maxHeartbeats 8000000 in
theorem specTrue_any (p : Int) (ao : Option Addr) (n cap : Nat) (F T G : Nat → Int) (so : Option Addr) (m sc : Nat) (S : Nat → ByteArray) (hn : n ≤ 1048576) (hm : m ≤ 1048576) (hS : ∀ k, k < m → (S k).size ≤ 1048576) (w : World) (hr : Row w ao n F T G) (hs : SRow w so m S) :
    Calls Tryd.prog 12 #[.agg #[.int .i64 p, .slice ao n cap], .slice so m sc] w fun e w' => ∃ ao' cap', e = .returned (.slice ao' (trL p n F T G S m).length cap') ∧ OwS w' w.heap.size ao' cap' (trL p n F T G S m) ∧ RB w w' := by
  obtain ⟨L, hL⟩ : ∃ L, L = trL p n F T G S m := ⟨_, rfl⟩
  rw [← hL]
  have HL : Hid (L = trL p n F T G S m) := hL
  clear hL
  have hb : RB w ((w.alloc (.cells #[.int .i64 p, .slice ao n cap] 40)).alloc (.cells #[] 9)) := RB.trans _ _ _ (RB.alloc w _) (RB.alloc _ _)
  have vG : VHas ((w.alloc (.cells #[.int .i64 p, .slice ao n cap] 40)).alloc (.cells #[] 9)) w.heap.size 40 2 (lf [.int .i64 p, .slice ao n cap]) := (trBox w [.int .i64 p, .slice ao n cap] 40).next (RB.alloc _ _)
  have hE : OwS ((w.alloc (.cells #[.int .i64 p, .slice ao n cap] 40)).alloc (.cells #[] 9)) w.heap.size (some ⟨w.heap.size + 1, 0, none⟩) 0 [] := by
    have h1 := GOwn.empty (w.alloc (.cells #[.int .i64 p, .slice ao n cap] 40)) 9 1 (lf (slc []))
    rw [World.size_alloc] at h1
    exact GOwn.from h1 (by omega)
  go_enter Tryd.func12, Tryd.ntmps12
  go_wp2_with fail
  generalize ((w.alloc (.cells #[.int .i64 p, .slice ao n cap] 40)).alloc (.cells #[] 9)) = W at hb vG hE ⊢
  refine (specGraphOk_any p ao n cap F T G hn _ (hr.below hb (Nat.le_refl _))).mono ?_
  rintro e w1 ⟨rfl, hb1⟩
  replace hb := RB.trans _ _ _ hb hb1
  replace vG := vG.next hb1
  replace hE := hE.next hb1
  rcases Bool.eq_false_or_eq_true (graphB p n F T G) with hg | hg
  rotate_left
  · rw [hg]
    have e0 : L = [] := by rw [HL.out]; simp [trL, hg]
    subst e0
    go_wp2
    go_ret
    exact ⟨_, 0, rfl, hE, hb⟩
  rw [hg]
  have J0 : TrJ w w1 p n F T ao cap (some ⟨w.heap.size + 1, 0, none⟩) 0 ⟨G, 0, []⟩ := ⟨hE, vG, hr.below hb (Nat.le_refl _), fun x e a ha hn0 => by
    have h3 : w.heap.size + 1 = x := by simpa [Value.ownBlock] using e
    obtain ⟨b, o, e2, c0, _⟩ := hr 0 hn0
    rw [ha] at e2
    cases e2
    have := lt_of_cell c0
    simp only
    omega, hb⟩
  clear vG hb hb1 hE
  go_wp2
  go_loopw [5, 6, 7, 8, 9, 10, 11] (fun x5 x6 xi x8 x9 x10 x11 wr => ∃ (i : Nat) (st : TrS) (ao1 : Option Addr) (cap1 : Nat) (so1 : Option Addr) (sc1 : Nat), i ≤ m ∧ xi = .int .i64 (i : Int) ∧ x6 = .int .i64 (st.v : Int) ∧ x5 = .slice so1 st.out.length sc1 ∧ Hid (trAt p n F T G S i = some st) ∧ TrJ w wr p n F T ao1 cap1 so1 sc1 st) (fun _ _ x _ _ _ _ _ => m - (intOf x).toNat)
  case atStart => exact ⟨0, ⟨G, 0, []⟩, ao, cap, _, 0, Nat.zero_le _, rfl, rfl, rfl, rfl, J0⟩
  case round =>
    obtain ⟨i, st, ao1, cap1, so1, sc1, hi, rfl, rfl, rfl, HA, J⟩ := hrel
    clear J0
    by_cases hlt : i < m
    rotate_left
    · obtain rfl : i = m := by omega
      have e0 : L = st.out := by rw [HL.out]; simp [trL, hg, HA.out]
      subst e0
      go_wp2
      go_ret
      exact ⟨so1, sc1, rfl, J.own, J.bel⟩
    obtain ⟨b, o, e, ct⟩ := hs.below J.bel (Nat.le_refl _) i hlt
    subst e
    have hlt' : (i : Int) < (m : Int) := by omega
    have hvl := trAt_len HA.out
    have hw1 : IntKind.i64.wrap ((i : Int) + 1) = (i : Int) + 1 := by rw [IntKind.wrap_i64]; omega
    go_wp2_with fail
    refine (specRead_any (S i) (hS i hlt) _).mono ?_
    rintro e w2 ⟨xo, xc, rfl, hO, hb2⟩
    have hnx := trAt_next HA.out
    have hok2 := @onlyOk_two _ (rdS (S i).data.toList) rfl
    generalize onlyOk (rdS (S i).data.toList) = r at hO hnx hok2 ⊢
    replace J := J.next hb2
    have hc : Row w2 xo ((lOf r).length / 3) (at3 (lOf r) 0) (at3 (lOf r) 1) (at3 (lOf r) 2) := OwnS.row hO
    have hal := RB.alloc w2 (.cells #[.int .i64 (kOf r), .slice xo ((lOf r).length / 3) xc, .int .i64 (aOf r 0), .int .i64 (aOf r 1)] 62)
    have vC : VHas (w2.alloc (.cells #[.int .i64 (kOf r), .slice xo ((lOf r).length / 3) xc, .int .i64 (aOf r 0), .int .i64 (aOf r 1)] 62)) w2.heap.size 62 4 (lf [.int .i64 (kOf r), .slice xo ((lOf r).length / 3) xc, .int .i64 (aOf r 0), .int .i64 (aOf r 1)]) := trBox w2 [.int .i64 (kOf r), .slice xo ((lOf r).length / 3) xc, .int .i64 (aOf r 0), .int .i64 (aOf r 1)] 62
    replace J := J.next hal
    replace hc := hc.below hal (Nat.le_refl _)
    clear hb2 hal hO ct
    rcases Bool.eq_false_or_eq_true r.isSome with his | his
    rotate_left
    · have e0 : L = [] := by
        rw [HL.out]
        have h9 : trAt p n F T G S (i + 1) = none := by rw [hnx]; simp [trDo, his]
        simp [trL, hg, trAt_none h9 m (by omega)]
      subst e0
      rw [his]
      go_wp2
      go_ret
      have h1 := GOwn.empty (w2.alloc (.cells #[.int .i64 (kOf r), .slice xo ((lOf r).length / 3) xc, .int .i64 (aOf r 0), .int .i64 (aOf r 1)] 62)) 9 1 (lf (slc []))
      rw [World.size_alloc] at h1
      have h2 := J.bel.size
      rw [World.size_alloc] at h2
      exact ⟨_, 0, rfl, GOwn.from h1 h2, RB.trans _ _ _ J.bel (RB.alloc _ _)⟩
    rw [his]
    have y0 := vC.cell (j := 0) (by omega)
    have y1 := vC.cell (j := 1) (by omega)
    have y2 := vC.cell (j := 2) (by omega)
    have y3 := vC.cell (j := 3) (by omega)
    have x0 := J.box.cell (j := 0) (by omega)
    have x1 := J.box.cell (j := 1) (by omega)
    simp [lf] at y0 y1 y2 y3 x0 x1
    by_cases hK : kOf r = 2
    · have hK' : (kOf r == 2) = true := by simp [hK]
      obtain ⟨hx10, hwf⟩ := hok2 hK
      have HK : Hid (kOf r = 2) := hK
      clear hK hok2
      go_wp2_with fail
      generalize (w2.alloc (.cells #[.int .i64 (kOf r), .slice xo ((lOf r).length / 3) xc, .int .i64 (aOf r 0), .int .i64 (aOf r 1)] 62)) = W2 at J hc vC y0 y1 y2 y3 x0 x1 ⊢
      cases hres : resOf p n F T st.G ((lOf r).length / 3) (at3 (lOf r) 0) (at3 (lOf r) 1) (at3 (lOf r) 2) with
      | none =>
        have hst : trAt p n F T G S (i + 1) = some ⟨st.G, st.v, st.out ++ [trNo]⟩ := by
          rw [hnx]
          have := HK.out
          simp [trDo, his, this, hres]
        refine (specReweigh_own p ao1 n cap1 F T st.G xo ((lOf r).length / 3) xc (at3 (lOf r) 0) (at3 (lOf r) 1) (at3 (lOf r) 2) hn (by omega) _ J.row hc 0 0 st.G false (.inr ⟨hres, rfl, rfl, rfl⟩)).mono ?_
        rintro e w3 ⟨ao', cap', rfl, _, hb3⟩
        have HST : Hid (trAt p n F T G S (i + 1) = some ⟨st.G, st.v, st.out ++ [trNo]⟩) := hst
        clear hres hnx hst x0 x1 y0 y1 y2 y3 hK'
        have hal3 := RB.alloc w3 (.cells #[.int .i64 0, .slice ao' 0 cap'] 40)
        have hal4 := RB.alloc (w3.alloc (.cells #[.int .i64 0, .slice ao' 0 cap'] 40)) (.cells #[.string ⟨#[110, 111]⟩] 9)
        replace J := ((J.next hb3).next hal3).next hal4
        have hrow : GRow ((w3.alloc (.cells #[.int .i64 0, .slice ao' 0 cap'] 40)).alloc (.cells #[.string ⟨#[110, 111]⟩] 9)) (some ⟨(w3.alloc (.cells #[.int .i64 0, .slice ao' 0 cap'] 40)).heap.size, 0, none⟩) (1 * 1) (fun _ => Value.string trNo) := L1.row (by simp [go_sem, trNo, txB])
        have hlen : st.out.length + 1 ≤ 100000000 := by omega
        have hbs := J.bel.size
        have hown : GOwn _ w.heap.size 9 1 so1 st.out.length sc1 (lf (slc st.out)) := J.own
        clear hb3 hal3 hal4
        go_wp2_with (at_builtin; with_reducible refine wpList_app rfl (.tmp 47) (.tmp 48) Tryd.elT rfl 49 rfl w.heap.size _ so1 st.out.length sc1 (by simp [go_sem]) hown (some ⟨(w3.alloc (.cells #[.int .i64 0, .slice ao' 0 cap'] 40)).heap.size, 0, none⟩) 1 1 (fun _ => Value.string trNo) (by simp [go_sem]) hrow (fun _ => rfl) hlen hbs ?_; intro so' sc' w5 hown5 hg5 hd5)
        go_roundw
        case rel => exact ⟨i + 1, ⟨st.G, st.v, st.out ++ [trNo]⟩, ao1, cap1, so', sc', by omega, by go_num, rfl, by simp, HST, J.put hown5 hg5 hd5⟩
        case measure => simp [intOf]; omega
      | some H =>
        have hst : trAt p n F T G S (i + 1) = some ⟨H, st.v + 1, st.out ++ [trYes (st.v + 1)]⟩ := by
          rw [hnx]
          have := HK.out
          simp [trDo, his, this, hres]
        refine (specReweigh_own p ao1 n cap1 F T st.G xo ((lOf r).length / 3) xc (at3 (lOf r) 0) (at3 (lOf r) 1) (at3 (lOf r) 2) hn (by omega) _ J.row hc p n H true (.inl ⟨hres, rfl, rfl, rfl⟩)).mono ?_
        rintro e w3 ⟨ao', cap', rfl, hO3, hb3⟩
        have HST : Hid (trAt p n F T G S (i + 1) = some ⟨H, st.v + 1, st.out ++ [trYes (st.v + 1)]⟩) := hst
        have hap : ∀ x, (Value.slice so1 st.out.length sc1).ownBlock = some x → ∀ a, ao' = some a → 0 < n → a.block ≠ x := fun x e a ha hn0 => by
          have h1 := (GOwn.at J.own e).2
          obtain ⟨b2, e2, hb2, _⟩ := hO3 0 hn0
          rw [ha] at e2
          cases e2
          simp only
          omega
        have hb32 := J.bel.size
        replace hO3 : OwnS w3 w.heap.size ao' n (ar F T H) := hO3.from (by omega)
        clear hres hnx hst x0 x1 y0 y1 y2 y3 hK' vC hc hwf
        have hal3 := RB.alloc w3 (.cells #[.int .i64 p, .slice ao' n cap'] 40)
        have vX := trBox w3 [.int .i64 p, .slice ao' n cap'] 40
        replace J := (J.next hb3).next hal3
        replace hO3 := hO3.nxt hal3
        have z0 := vX.cell (j := 0) (by simp)
        have z1 := vX.cell (j := 1) (by simp)
        simp [lf] at z0 z1
        have vB := J.box
        have hwv : IntKind.i64.wrap ((st.v : Int) + 1) = (st.v : Int) + 1 := by rw [IntKind.wrap_i64]; omega
        clear hb3 hal3 vX
        go_wp2_with (first | (with_reducible refine wpList_store_box rfl 40 (.tmp 2) (.tmp 50) rfl rfl w.heap.size [.int .i64 p, .slice ao' n cap'] (by simp [go_sem]) (by simp [go_sem]) vB (by kernel_rfl) (oneAll (by kernel_rfl)) ?_; intro W5 hv5 hg5) | fail)
        clear z0 z1
        replace J : TrJ w W5 p n F T ao' cap' so1 sc1 ⟨H, st.v, st.out⟩ := J.weigh hg5 hv5 hO3 hap
        clear hv5 hg5 vB hO3
        refine (l1Int_any (st.v + 1) (by omega) _).mono ?_
        rintro e w6 ⟨rfl, hb6⟩
        replace J := J.next hb6
        have hl := decDigits_len (st.v + 1)
        have etn : ((st.v : Int) + 1).toNat = st.v + 1 := by omega
        have hlen3 : ¬ 9223372036854775807 < 3 + (Lib.decDigits (st.v + 1)).length := by omega
        have hal7 := RB.alloc w6 (.cells #[.string (trYes (st.v + 1))] 9)
        replace J := J.next hal7
        have hrow : GRow (w6.alloc (.cells #[.string (trYes (st.v + 1))] 9)) (some ⟨w6.heap.size, 0, none⟩) (1 * 1) (fun _ => Value.string (trYes (st.v + 1))) := L1.row (by simp [go_sem])
        have hlen : st.out.length + 1 ≤ 100000000 := by omega
        have hbs := J.bel.size
        have hown : GOwn _ w.heap.size 9 1 so1 st.out.length sc1 (lf (slc st.out)) := J.own
        have hcat : ByteArray.mk #[111, 107, 32] ++ ByteArray.mk (Lib.decDigits (st.v + 1)).toArray = trYes (st.v + 1) := bytes_add [111, 107, 32] _
        clear hb6 hal7 etn
        go_wp2_with (at_builtin; with_reducible refine wpList_app rfl (.tmp 53) (.tmp 57) Tryd.elT rfl 58 rfl w.heap.size _ so1 st.out.length sc1 (by simp [go_sem]) hown (some ⟨w6.heap.size, 0, none⟩) 1 1 (fun _ => Value.string (trYes (st.v + 1))) (by simp [go_sem]) hrow (fun _ => rfl) hlen hbs ?_; intro so' sc' w7 hown7 hg7 hd7)
        go_roundw
        case rel => exact ⟨i + 1, ⟨H, st.v + 1, st.out ++ [trYes (st.v + 1)]⟩, ao', cap', so', sc', by omega, by go_num, by go_num, by simp, HST, by
          have h9 := J.put hown7 hg7 hd7
          exact ⟨h9.own, h9.box, h9.row, h9.ap, h9.bel⟩⟩
        case measure => simp [intOf]; omega
    have hK' : (kOf r == 2) = false := by simp [hK]
    by_cases hK3 : kOf r = 3
    · have hst : trAt p n F T G S (i + 1) = some ⟨st.G, st.v, st.out ++ [trAns p n F T st.G st.v (aOf r 0) (aOf r 1)]⟩ := by
        rw [hnx]
        simp [trDo, his, hK3]
      have HST : Hid (trAt p n F T G S (i + 1) = some ⟨st.G, st.v, st.out ++ [trAns p n F T st.G st.v (aOf r 0) (aOf r 1)]⟩) := hst
      have hK3' : (kOf r == 3) = true := by simp [hK3]
      clear hst hnx hK hK3 hok2
      go_wp2_with fail
      generalize (w2.alloc (.cells #[.int .i64 (kOf r), .slice xo ((lOf r).length / 3) xc, .int .i64 (aOf r 0), .int .i64 (aOf r 1)] 62)) = W2 at J hc vC y0 y1 y2 y3 x0 x1 ⊢
      clear y0 y1 y2 y3 x0 x1 hc hK' hK3'
      have hd : RB W2 W2.drew := (Below.refl _ _).drew
      replace J := J.next hd
      replace vC := vC.next hd
      clear hd
      have hl := decDigits_len st.v
      have hl1 : ¬ 9223372036854775807 < (Lib.decDigits st.v).length + 1 := by omega
      obtain ⟨tx, htx⟩ : ∃ tx, tx = dT (lenD p n F T st.G (aOf r 0)) (listD p n F T st.G (aOf r 0)) (aOf r 1) := ⟨_, rfl⟩
      have hl2 : ¬ 9223372036854775807 < (Lib.decDigits st.v).length + 1 + tx.length := by
        have h9 : tx.length ≤ 1000000000002 := by
          rw [htx]
          exact dT_len _ _ _ (fun v hv => (listD_in hv).2)
        omega
      have hbs := J.bel.size
      have HTR : Hid (trAns p n F T st.G st.v (aOf r 0) (aOf r 1) = txB (Lib.decDigits st.v ++ (32 :: tx))) := by show _ = _; rw [htx]; rfl
      have HTX : Hid (tx = dT (lenD p n F T st.G (aOf r 0)) (listD p n F T st.G (aOf r 0)) (aOf r 1)) := htx
      clear htx
      have hS0 : VHas W2.drew w.heap.size 40 2 (lf [.int .i64 p, .slice ao1 n cap1]) ∧ VHas W2.drew w2.heap.size 62 4 (lf [.int .i64 (kOf r), .slice xo ((lOf r).length / 3) xc, .int .i64 (aOf r 0), .int .i64 (aOf r 1)]) := ⟨J.box, vC⟩
      refine wp_region_held_drew (S := fun W' => VHas W' w.heap.size 40 2 (lf [.int .i64 p, .slice ao1 n cap1]) ∧ VHas W' w2.heap.size 62 4 (lf [.int .i64 (kOf r), .slice xo ((lOf r).length / 3) xc, .int .i64 (aOf r 0), .int .i64 (aOf r 1)])) (by kernel_rfl) hS0 (fun hS => ?_)
      refine takeH 0 (some 61) (.slice so1 st.out.length sc1) rfl rfl (by kernel_rfl) (by kernel_rfl) (by kernel_rfl) (fun _ _ _ h => h) (by rfl) hS (fun w3 hS3 => by go_simp) ?_
      simp only [Act.put, List.setIfInBounds_toArray, List.set_cons_zero, List.set_cons_succ]
      refine takeH 1 (some 62) (.int .i64 (st.v : Int)) rfl rfl (by kernel_rfl) (by kernel_rfl) (by kernel_rfl) (fun _ _ _ h => h) (by rfl) hS (fun w3 hS3 => by go_simp) ?_
      simp only [Act.put, List.setIfInBounds_toArray, List.set_cons_zero, List.set_cons_succ]
      refine takeH 4 (some 65) (.agg #[.int .i64 p, .slice ao1 n cap1]) rfl rfl (by kernel_rfl) (by kernel_rfl) (by kernel_rfl) (fun _ _ _ h => h) (by rfl) hS (fun w3 hS3 => by have c0 := hS3.1.cell (j := 0) (by omega); have c1 := hS3.1.cell (j := 1) (by omega); simp [lf] at c0 c1; go_simp) ?_
      simp only [Act.put, List.setIfInBounds_toArray, List.set_cons_zero, List.set_cons_succ]
      refine takeH 5 (some 66) (.pointer (some ⟨w2.heap.size, 2, none⟩)) rfl rfl (by kernel_rfl) (by kernel_rfl) (by kernel_rfl) (fun _ _ _ h => h) (by rfl) hS (fun w3 hS3 => by go_simp) ?_
      simp only [Act.put, List.setIfInBounds_toArray, List.set_cons_zero, List.set_cons_succ]
      refine takeH 6 (some 67) (.int .i64 (aOf r 0)) rfl rfl (by kernel_rfl) (by kernel_rfl) (by kernel_rfl) (fun _ _ _ h => h) (by rfl) hS (fun w3 hS3 => by have c0 := hS3.2.cell (j := 2) (by omega); simp [lf] at c0; go_simp) ?_
      simp only [Act.put, List.setIfInBounds_toArray, List.set_cons_zero, List.set_cons_succ]
      refine takeH 7 (some 68) (.pointer (some ⟨w2.heap.size, 3, none⟩)) rfl rfl (by kernel_rfl) (by kernel_rfl) (by kernel_rfl) (fun _ _ _ h => h) (by rfl) hS (fun w3 hS3 => by go_simp) ?_
      simp only [Act.put, List.setIfInBounds_toArray, List.set_cons_zero, List.set_cons_succ]
      refine takeH 8 (some 69) (.int .i64 (aOf r 1)) rfl rfl (by kernel_rfl) (by kernel_rfl) (by kernel_rfl) (fun _ _ _ h => h) (by rfl) hS (fun w3 hS3 => by have c0 := hS3.2.cell (j := 3) (by omega); simp [lf] at c0; go_simp) ?_
      simp only [Act.put, List.setIfInBounds_toArray, List.set_cons_zero, List.set_cons_succ]
      refine step1H 2 _ rfl (by kernel_rfl) (by rfl) ?_
      go_simp
      refine (l1Int_any st.v (by omega) _).mono ?_
      rintro e w3 ⟨rfl, hb3⟩
      replace J := J.next hb3
      replace hS := And.intro (hS.1.next hb3) (hS.2.next hb3)
      refine ⟨hS, ?_⟩
      try simp only [Act.put, List.setIfInBounds_toArray, List.set_cons_zero, List.set_cons_succ]
      refine takeH 3 (some 64) (txt (Lib.decDigits st.v ++ [32])) rfl rfl (by kernel_rfl) (by kernel_rfl) (by kernel_rfl) (fun _ _ _ h => h) (by rfl) hS (fun w4 _ => by
        rw [add_run (a := ⟨(Lib.decDigits st.v).toArray⟩) (b := ⟨#[32]⟩) rfl rfl rfl (by simp [ByteArray.size]; omega)]
        rw [show ByteArray.mk (Lib.decDigits st.v).toArray ++ ByteArray.mk #[32] = ⟨(Lib.decDigits st.v ++ [32]).toArray⟩ from bytes_add _ [32]]) ?_
      simp only [Act.put, List.setIfInBounds_toArray, List.set_cons_zero, List.set_cons_succ]
      refine step1H 9 _ rfl (by kernel_rfl) (by rfl) ?_
      go_simp
      refine (specAnswer_any p ao1 n cap1 F T st.G (aOf r 0) (aOf r 1) hn _ J.row).mono ?_
      rintro e w4 ⟨rfl, hb4⟩
      rw [← HTX.out]
      replace J := J.next hb4
      replace hS := And.intro (hS.1.next hb4) (hS.2.next hb4)
      refine ⟨hS, ?_⟩
      try simp only [Act.put, List.setIfInBounds_toArray, List.set_cons_zero, List.set_cons_succ]
      refine takeH 10 (some 71) (.string (txB (Lib.decDigits st.v ++ (32 :: tx)))) rfl rfl (by kernel_rfl) (by kernel_rfl) (by kernel_rfl) (fun _ _ _ h => h) (by rfl) hS (fun w5 _ => by
        rw [add_run (a := ⟨(Lib.decDigits st.v ++ [32]).toArray⟩) (b := ⟨tx.toArray⟩) rfl rfl rfl (by simp [ByteArray.size]; omega)]
        rw [bytes_add (Lib.decDigits st.v ++ [32]) tx]
        simp [txB]) ?_
      simp only [Act.put, List.setIfInBounds_toArray, List.set_cons_zero, List.set_cons_succ]
      refine step1H 11 _ rfl (by kernel_rfl) (by rfl) ?_
      go_simp
      have hal5 := RB.alloc w4 (.cells #[.string (txB (Lib.decDigits st.v ++ (32 :: tx)))] 9)
      replace J := J.next hal5
      replace hS := And.intro (hS.1.next hal5) (hS.2.next hal5)
      have hrow : GRow (w4.alloc (.cells #[.string (txB (Lib.decDigits st.v ++ (32 :: tx)))] 9)) (some ⟨w4.heap.size, 0, none⟩) (1 * 1) (fun _ => Value.string (txB (Lib.decDigits st.v ++ (32 :: tx)))) := L1.row (by simp [go_sem])
      refine ⟨hS, ?_⟩
      clear hb3 hb4 hal5
      generalize (w4.alloc (.cells #[.string (txB (Lib.decDigits st.v ++ (32 :: tx)))] 9)) = W5 at J hS hrow ⊢
      refine step1H 12 _ rfl (by kernel_rfl) (by rfl) ?_
      refine wp_appG (.tmp 61) (.tmp 72) Tryd.elT rfl 73 rfl w.heap.size _ so1 st.out.length sc1 rfl J.own (some ⟨w4.heap.size, 0, none⟩) 1 1 _ rfl hrow (fun _ => rfl) (by omega) J.bel.size ?_
      intro so' sc' w6 hown6 hg6 hd6
      have hT6 : ∀ y, (Value.slice so1 st.out.length sc1).ownBlock = some y → Typed W5 y 9 := fun y e => GOwn.typed J.own e
      have J8 := J.put hown6 hg6 hd6
      rw [← HTR.out] at J8
      replace hS := And.intro (hS.1.gr hg6 hT6 (by decide)) (hS.2.gr hg6 hT6 (by decide))
      refine ⟨hS, ?_⟩
      clear hown6 hg6 hd6 hT6 hrow J
      simp only [Act.put, List.setIfInBounds_toArray, List.set_cons_zero, List.set_cons_succ]
      refine takeH 13 (some 5) (.slice so' (st.out.length + 1) sc') rfl rfl (by kernel_rfl) (by kernel_rfl) (by kernel_rfl) (fun _ _ _ h => h) (by rfl) hS (fun w7 _ => by go_simp) ?_
      simp only [Act.put, List.setIfInBounds_toArray, List.set_cons_zero, List.set_cons_succ]
      refine wpAnyH_done (by kernel_rfl) ?_ _
      clear hS hS0 HTX hl2
      go_wp2
      go_roundw
      case rel => exact ⟨i + 1, ⟨st.G, st.v, st.out ++ [trAns p n F T st.G st.v (aOf r 0) (aOf r 1)]⟩, ao1, cap1, so', sc', by omega, by go_num, rfl, by simp, HST, J8⟩
      case measure => simp [intOf]; omega
    have hst : trAt p n F T G S (i + 1) = some st := by
      rw [hnx]
      simp [trDo, his, hK, hK3]
    have HST : Hid (trAt p n F T G S (i + 1) = some st) := hst
    have hK3' : (kOf r == 3) = false := by simp [hK3]
    clear hst hnx hK hK3 hok2
    go_wp2
    go_roundw
    case rel => exact ⟨i + 1, st, ao1, cap1, so1, sc1, by omega, by go_num, rfl, rfl, HST, J⟩
    case measure => simp [intOf]; omega

end Go.Proofs.YticckgmkhgnmfaaDoor
