/-
  Helpers, merged: FillS, OrdL, FillL, Equal, RankImpl, OrderOk, Sort, MeshMem.
-/
import Derived.Test.YtmnohgcjdhokdahPack3
import Derived.Test.YtmnohgcjdhokdahPack4
import Derived.Test.YtmnohgcjdhokdahPack1
import Derived.Test.YtmnohgcjdhokdahPack2
import Derived.BigRegion
/-
  The fill, the document's: the edges in their order. For maps of at most 24 places and orders that have each place once.
-/
set_option linter.unusedVariables false
set_option linter.unusedSimpArgs false
namespace Go.Proofs.Ytmnohgcjdhokdah
open Go.RowKit
attribute [local go_sem ↓] Go.wp_at_zero Go.wp_at_succ

/-- Is one among the first k of rank h? -/
def dnB (R L : Nat → Int) (h : Int) : Nat → Bool
  | 0 => false
  | i + 1 => dnB R L h i || R (L i).toNat == h
theorem dn_mem {R L : Nat → Int} {h : Int} : ∀ k, dnB R L h k = true ↔ ∃ i, i < k ∧ R (L i).toNat = h
  | 0 => by simp [dnB]
  | k + 1 => by
    show (dnB R L h k || R (L k).toNat == h) = true ↔ _
    rw [Bool.or_eq_true, dn_mem k, beq_iff_eq]
    constructor
    · rintro (⟨i, h1, h2⟩ | h1)
      · exact ⟨i, by omega, h2⟩
      · exact ⟨k, by omega, h1⟩
    · rintro ⟨i, h1, h2⟩
      by_cases e : i = k
      · subst e; exact Or.inr h2
      · exact Or.inl ⟨i, by omega, h2⟩
theorem dn_once {p : Nat} {P : Nat → Int} {f : Nat → Bool} (he : eachB p P p = true) {i : Nat} (hi : i < cntB f p) {h : Int} (hr : rk P 0 p (nf f p i).toNat = h) : dnB (rk P 0 p) (nf f p) h i = false := by
  cases hd : dnB (rk P 0 p) (nf f p) h i
  · rfl
  obtain ⟨j, hj, e⟩ := (dn_mem i).1 hd
  obtain ⟨q, q1, q2, q3, q4⟩ := nf_at p i hi
  obtain ⟨q', r1, r2, r3, r4⟩ := nf_at (f := f) p j (by omega)
  rw [q2] at hr
  rw [r2] at e
  simp at hr e
  obtain ⟨k, _, h1, h2⟩ := rk_of he 0 q1
  obtain ⟨k', _, h3, h4⟩ := rk_of he 0 r1
  have : k = k' := by omega
  subst this
  have : q = q' := by omega
  subst this
  omega
theorem dn_end {p : Nat} {P : Nat → Int} {f : Nat → Bool} (he : eachB p P p = true) {h : Nat} (hh : h < p) : dnB (rk P 0 p) (nf f p) (h : Int) (cntB f p) = f (P h).toNat := by
  rw [Bool.eq_iff_iff, dn_mem]
  have hP := (each_in p he h hh).1
  constructor
  · rintro ⟨i, hi, e⟩
    obtain ⟨q, q1, q2, q3, q4⟩ := nf_at p i hi
    rw [q2] at e
    simp at e
    obtain ⟨k, _, h1, h2⟩ := rk_of he 0 q1
    have : k = h := by omega
    subst this
    have : (P k).toNat = q := by omega
    rw [this]; exact q3
  · intro hf
    have hlt : cntB f (P h).toNat < cntB f p := by
      have := cntB_mono f (show (P h).toNat + 1 ≤ p by omega)
      rw [cntB_succ hf] at this
      omega
    refine ⟨_, hlt, ?_⟩
    obtain ⟨q, q1, q2, q3, q4⟩ := nf_at p _ hlt
    have := cntB_inj q3 hf q4
    rw [q2, this, Int.toNat_natCast]
    exact rk_is 0 p he h hh
theorem rowS_nil {B : Nat → Nat → Bool} {P : Nat → Int} (r : Nat) : ∀ k, k ≤ r + 1 → rowS B P r k = []
  | 0, _ => rfl
  | k + 1, h => by
    show rowS B P r k ++ _ = []
    rw [rowS_nil r k (by omega), if_neg (by omega)]; rfl
/-- The list while the neighbours of one rank are gone through for one h. -/
def midS (B : Nat → Nat → Bool) (P : Nat → Int) (p r h i : Nat) : List Pr := allS B P p r ++ rowS B P r h ++ (if dnB (rk P 0 p) (nf (sqO B P r (P r).toNat) p) (h : Int) i = true then [((r : Int), (h : Int))] else [])
theorem midS_zero (B : Nat → Nat → Bool) (P : Nat → Int) (p r h : Nat) : midS B P p r h 0 = allS B P p r ++ rowS B P r h := by simp [midS, dnB]
theorem midS_end {B : Nat → Nat → Bool} {P : Nat → Int} {p : Nat} (he : eachB p P p = true) {r h : Nat} (hr : r < h) (hh : h < p) : midS B P p r h (cntB (sqO B P r (P r).toNat) p) = allS B P p r ++ rowS B P r (h + 1) := by
  unfold midS
  rw [dn_end he hh, List.append_assoc]
  congr 1
  show _ = rowS B P r h ++ (if r < h ∧ sqO B P r (P r).toNat (P h).toNat = true then [((r : Int), (h : Int))] else [])
  congr 1
  by_cases x : sqO B P r (P r).toNat (P h).toNat = true
  · rw [if_pos x, if_pos ⟨hr, x⟩]
  · rw [if_neg x, if_neg (fun c => x c.2)]
theorem midS_hit {B : Nat → Nat → Bool} {P : Nat → Int} {p r h i : Nat} (he : eachB p P p = true) (hi : i < cntB (sqO B P r (P r).toNat) p) (hr : rk P 0 p (nf (sqO B P r (P r).toNat) p i).toNat = (h : Int)) : midS B P p r h (i + 1) = midS B P p r h i ++ [((r : Int), (h : Int))] := by
  have h0 := dn_once he hi hr
  have h1 : dnB (rk P 0 p) (nf (sqO B P r (P r).toNat) p) (h : Int) (i + 1) = true := by
    show (dnB _ _ _ i || _) = true
    rw [hr]; simp
  unfold midS
  rw [h0, h1]; simp
theorem midS_miss {B : Nat → Nat → Bool} {P : Nat → Int} {p r h i : Nat} (hr : ¬ rk P 0 p (nf (sqO B P r (P r).toNat) p i).toNat = (h : Int)) : midS B P p r h (i + 1) = midS B P p r h i := by
  have h1 : dnB (rk P 0 p) (nf (sqO B P r (P r).toNat) p) (h : Int) (i + 1) = dnB (rk P 0 p) (nf (sqO B P r (P r).toNat) p) (h : Int) i := by
    show (dnB _ _ _ i || _) = _
    have : (rk P 0 p (nf (sqO B P r (P r).toNat) p i).toNat == (h : Int)) = false := by simpa using hr
    rw [this]; simp
  unfold midS
  rw [h1]
theorem rowS_len {B : Nat → Nat → Bool} {P : Nat → Int} (r : Nat) : ∀ k, (rowS B P r k).length ≤ k
  | 0 => Nat.le_refl _
  | k + 1 => by
    show (rowS B P r k ++ _).length ≤ k + 1
    have := rowS_len (B := B) (P := P) r k
    rw [List.length_append]
    split <;> simp <;> omega
theorem allS_len {B : Nat → Nat → Bool} {P : Nat → Int} {p : Nat} (hp : p ≤ 24) : ∀ R, (allS B P p R).length ≤ 24 * R
  | 0 => Nat.le_refl _
  | R + 1 => by
    show (allS B P p R ++ rowS B P R p).length ≤ _
    have := allS_len (B := B) (P := P) hp R
    have := rowS_len (B := B) (P := P) R p
    rw [List.length_append]; omega
theorem midS_len {B : Nat → Nat → Bool} {P : Nat → Int} {p r h i : Nat} (hp : p ≤ 24) (hr : r ≤ 24) (hh : h ≤ 24) : (midS B P p r h i).length ≤ 1000 := by
  unfold midS
  have := allS_len (B := B) (P := P) hp r
  have := rowS_len (B := B) (P := P) r h
  rw [List.length_append, List.length_append]
  split <;> simp <;> omega

/-- What stands while the fill is made. -/
structure FS (w : World) (gv : Value) (p bs rb : Nat) (B : Nat → Nat → Bool) (R : Nat → Int) (g c : Nat) (l : List Pr) (W : World) : Prop where
  bel : Below (w.heap.size + 1) (w.alloc (.cells #[.int .i64 (p : Int), gv] 47)) W
  sq : Sq W bs p B
  rks : IHas W rb p R
  own : EOwn W (w.heap.size + 1) g c l
  ne : (g ≠ bs ∧ g ≠ rb ∧ bs ≠ rb) ∧ w.heap.size + 1 ≤ bs ∧ w.heap.size + 1 ≤ rb
theorem FS.next {w : World} {gv : Value} {p bs rb : Nat} {B : Nat → Nat → Bool} {R : Nat → Int} {g c : Nat} {l : List Pr} {W W' : World} (h : FS w gv p bs rb B R g c l W) (hb : Below W.heap.size W W') : FS w gv p bs rb B R g c l W' :=
  ⟨below_next h.bel (by simp) hb, VHas.next h.sq hb, h.rks.below hb h.rks.lt, h.own.next hb, h.ne⟩
theorem FS.taken {w : World} {gv : Value} {p bs rb : Nat} {B B' : Nat → Nat → Bool} {R : Nat → Int} {g c : Nat} {l : List Pr} {W W' : World} (h : FS w gv p bs rb B R g c l W) (hg : W.grownBy W' (some bs)) (hs : Sq W' bs p B') : FS w gv p bs rb B' R g c l W' := by
  have hn := h.ne
  have hz := h.bel.size
  simp at hz
  exact ⟨h.bel.trans (gr_below hg (by omega) (by omega)), hs, h.rks.grown hg (by simp; omega), h.own.grown hg (by simp; omega), h.ne⟩
theorem FS.longer {w : World} {gv : Value} {p bs rb : Nat} {B : Nat → Nat → Bool} {R : Nat → Int} {g c : Nat} {l : List Pr} {W W' : World} (h : FS w gv p bs rb B R g c l W) (hg : W.grownBy W' (some g)) {g' c' : Nat} {l' : List Pr} (ho : EOwn W' (w.heap.size + 1) g' c' l') (hat : g' = g ∨ g' = W.heap.size) : FS w gv p bs rb B R g' c' l' W' := by
  have hn := h.ne
  have hz := h.bel.size
  have h1 := h.rks.lt
  have h2 := VHas.lt h.sq
  have h3 := h.own.base
  simp at hz
  exact ⟨h.bel.trans (gr_below hg (by omega) (by omega)), VHas.grown h.sq hg (by simp; omega), h.rks.grown hg (by simp; omega), ho, by omega⟩

set_option maxRecDepth 100000 in
set_option maxHeartbeats 4000000 in
theorem l4Fill_any (p : Nat) (ao : Option Addr) (n cap : Nat) (F T G : Nat → Int) (po : Option Addr) (pcap : Nat) (P : Nat → Int) (hp1 : 1 ≤ p) (hp : p ≤ 24) (hn : n ≤ 100) (hF : ∀ k, k < n → 0 ≤ F k ∧ F k < (p : Int)) (hT : ∀ k, k < n → 0 ≤ T k ∧ T k < (p : Int)) (hFT : ∀ k, k < n → F k ≠ T k) (he : eachB p P p = true) (w : World) (hr : Row w ao n F T G) (hq : IRow w po p P) :
    Calls Try.prog 115 #[.agg #[.int .i64 (p : Int), .slice ao n cap], .slice po p pcap] w fun e w' => ∃ g c, e = .returned (.slice (some ⟨g, 0, none⟩) (allS (nbA F T n) P p p).length c) ∧ w.heap.size ≤ g ∧ EOwn w' w.heap.size g c (allS (nbA F T n) P p p) ∧ Below w.heap.size w w' := by
  have hfair : Fair (nbA F T n) := fair_nbA n (fun k hk => by have := hF k hk; have := hT k hk; have := hFT k hk; omega)
  have hsq := fun W hr' => l3Square_any p ao n cap F T G hp1 hp hn hF hT hFT W hr'
  generalize nbA F T n = B at hfair hsq ⊢
  have HSQ : Hid (∀ W, Row W ao n F T G → Calls Try.prog 126 #[.agg #[.int .i64 (p : Int), .slice ao n cap]] W fun e w' => e = .returned (.slice (some ⟨W.heap.size + 1, 0, none⟩) (p * p) (p * p)) ∧ Sq w' (W.heap.size + 1) p B ∧ Below W.heap.size W w') := hsq
  have HF : Hid (Fair B) := hfair
  have HE : Hid (eachB p P p = true) := he
  clear hfair hsq hF hT hFT he
  go_enter Try.func115, Try.ntmps115
  go_wp2_with fail
  refine (HSQ.out _ (hr.alloc _)).mono ?_
  rintro e w1 ⟨rfl, hS1, hb1⟩
  have hA1 := boxed hb1
  clear hb1
  go_wp2_with fail
  refine (l3Ranks_any po p pcap P hp HE.out _ ((hq.alloc _).below hA1 (by simp))).mono ?_
  rintro e w2 ⟨rfl, hR2, hb2⟩
  have hS2 := VHas.next hS1 hb2
  have hA2 := below_next hA1 (by simp) hb2
  have hl1 := VHas.lt hS1
  have hl2 := hR2.lt
  simp only [World.size_alloc] at hl1 hS2
  clear hS1 hA1 hb2
  have hFS : FS w (.slice ao n cap) p (w.heap.size + 1 + 1) w1.heap.size B (rk P 0 p) w2.heap.size 0 [] (w2.alloc (.cells #[] 71)) :=
    ⟨hA2.alloc (by have := hA2.size; simp at this; omega) _, VHas.alloc hS2 _, hR2.below ((Below.refl _ _).alloc (Nat.le_refl _) _) hR2.lt, EOwn.empty w2 (by omega), by omega⟩
  clear hA2 hS2 hR2
  generalize w1.heap.size = rb at hFS hl1 hl2
  go_wp2_with fail
  go_loopw [7, 8] (fun d x wr => ∃ r g c : Nat, r ≤ p ∧ x = .int .i64 r ∧ d = .slice (some ⟨g, 0, none⟩) (allS B P p r).length c ∧ FS w (.slice ao n cap) p (w.heap.size + 1 + 1) rb (sqO B P r) (rk P 0 p) g c (allS B P p r) wr) (fun _ x _ => p - (intOf x).toNat)
  case atStart => exact ⟨0, w2.heap.size, 0, Nat.zero_le _, rfl, rfl, hFS⟩
  case round =>
    clear hFS
    obtain ⟨r, g, c, hrp, rfl, rfl, hS⟩ := hrel
    by_cases hlt : r < p
    rotate_left
    · have e : r = p := by omega
      subst e
      have hb := hS.own.base
      go_wp2
      go_ret
      exact ⟨g, c, rfl, by omega, hS.own.from (Nat.le_succ _), unbox hS.bel (by omega)⟩
    have hlt' : (r : Int) < (p : Int) := by omega
    have hr0 : (0 : Int) ≤ (r : Int) := by omega
    obtain ⟨ha0, ha1⟩ := (each_in p HE.out r hlt).1
    obtain ⟨a, ha⟩ : ∃ a : Nat, P r = (a : Int) := ⟨(P r).toNat, by omega⟩
    have hap : a < p := by omega
    obtain ⟨b, o, hpo, c0⟩ := ((hq.alloc _).below hS.bel (by simp)) r hlt
    have hbl : b < w.heap.size := by
      obtain ⟨b', o', e', k0⟩ := hq r hlt
      rw [hpo] at e'
      simp at e'
      have := lt_of_cell k0
      omega
    subst hpo
    rw [ha] at c0
    have HPa : Hid (P r = (a : Int)) := ha
    obtain ⟨x0, x1, xs⟩ := box2 hS.bel
    have hnb := fun W hs => l3Neighbours_any (w.heap.size + 1 + 1) p a (sqO B P r) hp hap W hs
    have htk := fun W hs => l3Take_any (w.heap.size + 1 + 1) p a (sqO B P r) hp hap (sqO_fair HF.out P r) W hs
    have htk2 : Hid (∀ W, Sq W (w.heap.size + 1 + 1) p (sqO B P r) → Calls Try.prog 128 #[.slice (some ⟨w.heap.size + 1 + 1, 0, none⟩) (p * p) (p * p), .int .i64 (p : Int), .int .i64 (a : Int)] W fun e w' => e = .returned (.tuple #[]) ∧ Sq w' (w.heap.size + 1 + 1) p (sqO B P (r + 1)) ∧ W.grownBy w' (some (w.heap.size + 1 + 1))) := by
      intro W hs
      have e : sqO B P (r + 1) = tk (sqO B P r) a := by show tk (sqO B P r) (P r).toNat = _; rw [ha]; rfl
      rw [e]
      exact htk W hs
    have hrow : sqO B P r (P r).toNat = sqO B P r a := by rw [ha]; rfl
    obtain ⟨m, hm⟩ : ∃ m, cntB (sqO B P r a) p = m := ⟨_, rfl⟩
    obtain ⟨K, hK⟩ : ∃ K, nf (sqO B P r a) p = K := ⟨_, rfl⟩
    have HK : Hid (cntB (sqO B P r (P r).toNat) p = m ∧ nf (sqO B P r (P r).toNat) p = K) := by rw [hrow]; exact ⟨hm, hK⟩
    have hm24 : m ≤ 24 := by rw [← hm]; exact Nat.le_trans (cntB_le _ _) hp
    have HKI : Hid (∀ i, i < m → ∃ q : Nat, q < p ∧ K i = (q : Int)) := fun i hi => by
      rw [← hm] at hi
      obtain ⟨q, q1, q2, _⟩ := nf_at p i hi
      exact ⟨q, q1, by rw [← hK]; exact q2⟩
    rw [hm, hK] at hnb
    have HNB : Hid (∀ W, Sq W (w.heap.size + 1 + 1) p (sqO B P r) → Calls Try.prog 127 #[.slice (some ⟨w.heap.size + 1 + 1, 0, none⟩) (p * p) (p * p), .int .i64 (p : Int), .int .i64 (a : Int)] W fun e w' => ∃ g c, e = .returned (.slice (some ⟨g, 0, none⟩) m c) ∧ W.heap.size ≤ g ∧ IHas w' g m K ∧ Below W.heap.size W w') := hnb
    clear hnb htk hrow hm hK ha ha0 ha1
    have hsd : Sq wr.drew (w.heap.size + 1 + 1) p (sqO B P r) := VHas.of_block hS.sq rfl
    go_wp2
    go_region_held3 (fun w' => w'.cell? ⟨w.heap.size, 0, none⟩ = some (.int .i64 (p : Int)) ∧ w'.cell? ⟨b, o + r, none⟩ = some (.int .i64 (a : Int)))
      (first | (go_split_ands; refine ⟨?_, ?_⟩ <;> exact keep_cell hb3 (Nat.le_refl _) (by assumption)) | go_keep)
      (first | (go_at_call 127; refine (HNB.out _ hsd).mono ?_; rintro e w3 ⟨gl, cl, rfl, hgl, hI3, hb3⟩))
    have hS3 : FS w (.slice ao n cap) p (w.heap.size + 1 + 1) rb (sqO B P r) (rk P 0 p) g c (allS B P p r) w3 := FS.next (W := wr.drew) ⟨hS.bel.drew, hsd, hS.rks.of_block rfl, hS.own.of_block rfl, hS.ne⟩ hb3
    have hgg : g < w3.heap.size := hS3.own.lt
    have hne3 : g ≠ gl ∧ w.heap.size + 1 + 1 ≠ gl := by
      have h1 := hS.own.lt
      have h2 := VHas.lt hS.sq
      have h3 : wr.heap.size ≤ gl := hgl
      omega
    have hy0 := keep_cell hb3 (Nat.le_refl _) (show wr.drew.cell? ⟨w.heap.size, 0, none⟩ = some (.int .i64 (p : Int)) from x0)
    have hy1 := keep_cell hb3 (Nat.le_refl _) (show wr.drew.cell? ⟨b, o + r, none⟩ = some (.int .i64 (a : Int)) from c0)
    have hsd3 : Sq w3.drew (w.heap.size + 1 + 1) p (sqO B P r) := VHas.of_block hS3.sq rfl
    clear hS hsd hb3 hgl x0 x1 c0 hgg
    go_wp2
    go_region_held3 (fun w' => w'.cell? ⟨w.heap.size, 0, none⟩ = some (.int .i64 (p : Int)) ∧ w'.cell? ⟨b, o + r, none⟩ = some (.int .i64 (a : Int)))
      (first | (go_split_ands; refine ⟨hg4.cell (by assumption) (by simp; omega), hg4.cell (by assumption) (by simp; omega)⟩) | go_keep)
      (first | (go_at_call 128; refine (htk2.out _ hsd3).mono ?_; rintro e w4 ⟨rfl, hs4, hg4⟩))
    have hS4 : FS w (.slice ao n cap) p (w.heap.size + 1 + 1) rb (sqO B P (r + 1)) (rk P 0 p) g c (allS B P p r) w4 := FS.taken (W := w3.drew) ⟨hS3.bel.drew, hsd3, hS3.rks.of_block rfl, hS3.own.of_block rfl, hS3.ne⟩ hg4 hs4
    have hI4 : IHas w4 gl m K := (IHas.of_block (w' := w3.drew) hI3 rfl).grown hg4 (by simp; omega)
    clear hS3 hI3 hsd3 hs4 hg4 hy0 hy1 htk2 HNB
    go_wp2
    go_loopw [7, 10] (fun d x wq => ∃ h g c : Nat, r < h ∧ h ≤ p ∧ x = .int .i64 h ∧ d = .slice (some ⟨g, 0, none⟩) (allS B P p r ++ rowS B P r h).length c ∧ FS w (.slice ao n cap) p (w.heap.size + 1 + 1) rb (sqO B P (r + 1)) (rk P 0 p) g c (allS B P p r ++ rowS B P r h) wq ∧ IHas wq gl m K ∧ g ≠ gl) (fun _ x _ => p - (intOf x).toNat)
    case atStart => exact ⟨r + 1, g, c, by omega, by omega, by go_num, by rw [rowS_nil r (r + 1) (Nat.le_refl _), List.append_nil], by rw [rowS_nil r (r + 1) (Nat.le_refl _), List.append_nil]; exact hS4, hI4, hne3.1⟩
    case round =>
      clear hS4 hI4 hne3
      obtain ⟨h, g, c, hrh, hhp, rfl, rfl, hS, hI, hne⟩ := hrel
      by_cases hlh : h < p
      rotate_left
      · have e : h = p := by omega
        subst e
        go_wp2
        go_roundw
        case rel => exact ⟨r + 1, g, c, by omega, by go_num, rfl, hS⟩
        case measure => simp [intOf]; omega
      have hlh' : (h : Int) < (p : Int) := by omega
      go_wp2
      go_loopw [7, 11] (fun d x wz => ∃ i g c : Nat, i ≤ m ∧ x = .int .i64 i ∧ d = .slice (some ⟨g, 0, none⟩) (midS B P p r h i).length c ∧ FS w (.slice ao n cap) p (w.heap.size + 1 + 1) rb (sqO B P (r + 1)) (rk P 0 p) g c (midS B P p r h i) wz ∧ IHas wz gl m K ∧ g ≠ gl) (fun _ x _ => m - (intOf x).toNat)
      case atStart => exact ⟨0, g, c, Nat.zero_le _, rfl, by rw [midS_zero], by rw [midS_zero]; exact hS, hI, hne⟩
      case round =>
        clear hS hI hne
        obtain ⟨i, g, c, him, rfl, rfl, hS, hI, hne⟩ := hrel
        by_cases hli : i < m
        rotate_left
        · have e : i = m := by omega
          subst e
          have hend : Hid (midS B P p r h i = allS B P p r ++ rowS B P r (h + 1)) := by
            have := midS_end (B := B) HE.out hrh hlh
            rw [HK.out.1] at this
            exact this
          go_wp2
          go_roundw
          case rel => exact ⟨h + 1, g, c, by omega, by omega, by go_num, by rw [hend.out], by rw [← hend.out]; exact hS, hI, hne⟩
          case measure => simp [intOf]; omega
        have hli' : (i : Int) < (m : Int) := by omega
        have hi0 : (0 : Int) ≤ (i : Int) := by omega
        obtain ⟨q, hqp, hKq⟩ := HKI.out i hli
        have d0 := hI.cell hli
        rw [hKq] at d0
        have d1 := hS.rks.cell hqp
        have hqp' : (q : Int) < (p : Int) := by omega
        have hq0 : (0 : Int) ≤ (q : Int) := by omega
        have hlen := midS_len (B := B) (P := P) (r := r) (h := h) (i := i) hp (by omega) (by omega)
        have hIl := hI.lt
        have hRl := hS.rks.lt
        by_cases hit : rk P 0 p q = (h : Int)
        · have HM : Hid (midS B P p r h (i + 1) = midS B P p r h i ++ [((r : Int), (h : Int))]) := by
            refine midS_hit HE.out (by rw [HK.out.1]; exact hli) ?_
            rw [HK.out.2, hKq]
            simpa using hit
          have hlen1 : Hid ((midS B P p r h (i + 1)).length = (midS B P p r h i).length + 1) := by
            show (midS B P p r h (i + 1)).length = _
            rw [HM.out]; simp
          rw [hit] at d1
          have hal := (Below.refl wr.heap.size wr).alloc (Nat.le_refl _) (.cells #[.int .i64 (r : Int), .int .i64 (h : Int)] 71)
          have hS5 := hS.next hal
          have hI5 := hI.below hal hIl
          have hbs := hS.bel.size
          simp only [World.size_alloc] at hbs
          go_wp2_with (at_builtin; refine wpList_append_edge rfl _ _ rfl (w.heap.size + 1) g c (midS B P p r h i) rfl hS5.own wr.heap.size 1 (r : Int) (h : Int) rfl (by simp [go_sem]) (by simp [go_sem]) (by omega) (by simp; omega) ?_; intro g' c' w6 hown6 hgrow6 hat6)
          have hS6 := hS5.longer hgrow6 hown6 hat6
          have hI6 := hI5.grown hgrow6 (by simp; omega)
          have hne6 : g' ≠ gl := by simp at hat6; omega
          clear hS hI hS5 hI5 hown6 hgrow6 hat6 hal d0 d1
          rw [← HM.out] at hS6
          go_wp2
          go_roundw
          case rel => exact ⟨i + 1, g', c', by omega, by go_num, by rw [hlen1.out], hS6, hI6, hne6⟩
          case measure => simp [intOf]; omega
        · have HM : Hid (midS B P p r h (i + 1) = midS B P p r h i) := by
            refine midS_miss ?_
            rw [HK.out.2, hKq]
            simpa using hit
          have hitb : (rk P 0 p q == (h : Int)) = false := by simpa using hit
          go_wp2
          go_roundw
          case rel => exact ⟨i + 1, g, c, by omega, by go_num, by rw [HM.out], by rw [HM.out]; exact hS, hI, hne⟩
          case measure => simp [intOf]; omega

end Go.Proofs.Ytmnohgcjdhokdah

/-
  How long an order is, and which: the plain part.
-/
set_option linter.unusedVariables false
set_option linter.unusedSimpArgs false
namespace Go.Proofs.Ytmnohgcjdhokdah
open Go.RowKit
attribute [local go_sem ↓] Go.wp_at_zero Go.wp_at_succ

def lenO (p : Int) (n : Nat) (F T G : Nat → Int) : Nat := if graphB p n F T G then p.toNat else 0
def listO (p : Int) (n : Nat) (F T : Nat → Int) : Nat → Int := (run3 p.toNat (nbA F T n) p.toNat).2.2
theorem lenO_le (p : Int) (n : Nat) (F T G : Nat → Int) : lenO p n F T G ≤ 24 := by
  unfold lenO
  split
  · next h =>
    have := graphB_p h
    simp [inB] at this
    omega
  · omega
theorem ok_arcs {p : Nat} {n : Nat} {F T G : Nat → Int} (h : graphB (p : Int) n F T G = true) : (1 ≤ p ∧ p ≤ 24) ∧ n ≤ 100 ∧ (∀ k, k < n → 0 ≤ F k ∧ F k < (p : Int)) ∧ (∀ k, k < n → 0 ≤ T k ∧ T k < (p : Int)) ∧ ∀ k, k < n → F k ≠ T k := by
  have h1 := graphB_p h
  have h2 := graphB_arcs h
  have he : ∀ k, k < n → (0 ≤ F k ∧ F k < (p : Int)) ∧ (0 ≤ T k ∧ T k < (p : Int)) ∧ F k ≠ T k := fun k hk => by
    have := (arcsB_each n h2.2 k hk).1
    simp [arcB, inB] at this
    omega
  simp [inB] at h1
  exact ⟨by omega, h2.1, fun k hk => (he k hk).1, fun k hk => (he k hk).2.1, fun k hk => (he k hk).2.2⟩

end Go.Proofs.Ytmnohgcjdhokdah

/-
  The fill's list: the plain part.
-/
set_option linter.unusedVariables false
set_option linter.unusedSimpArgs false
namespace Go.Proofs.Ytmnohgcjdhokdah
open Go.RowKit
attribute [local go_sem ↓] Go.wp_at_zero Go.wp_at_succ

def lstF (p : Int) (n : Nat) (F T : Nat → Int) (P : Nat → Int) : List Pr := allS (nbA F T n) P p.toNat p.toNat
def lenF (p : Int) (n : Nat) (F T G : Nat → Int) (m : Nat) (P : Nat → Int) : Nat := if ordB p n F T G m P then (lstF p n F T P).length else 0
theorem ordB_parts {p : Int} {n : Nat} {F T G : Nat → Int} {m : Nat} {P : Nat → Int} (h : ordB p n F T G m P = true) : (m : Int) = p ∧ graphB p n F T G = true ∧ (1 ≤ m ∧ m ≤ 24) ∧ eachB m P m = true := by
  simp [ordB, okR] at h
  exact ⟨h.2.1, h.1, ⟨h.2.2.1, h.2.2.2.1⟩, h.2.2.2.2⟩
theorem lenF_le (p : Int) (n : Nat) (F T G : Nat → Int) (m : Nat) (P : Nat → Int) : lenF p n F T G m P ≤ 1000 := by
  unfold lenF
  split
  · next h =>
    obtain ⟨h1, _, h2, _⟩ := ordB_parts h
    have hp : p.toNat ≤ 24 := by omega
    have := allS_len (B := nbA F T n) (P := P) hp p.toNat
    unfold lstF
    omega
  · omega

end Go.Proofs.Ytmnohgcjdhokdah

/-
  slices.Equal over edges: true just where both are as long, and each edge is the same.
-/
set_option linter.unusedVariables false
set_option linter.unusedSimpArgs false
namespace Go.Proofs.Ytmnohgcjdhokdah
open Go.RowKit
attribute [local go_sem ↓] Go.wp_at_zero Go.wp_at_succ

def SameE (n m : Nat) (L H L' H' : Nat → Int) : Prop := n = m ∧ ∀ i, i < n → L i = L' i ∧ H i = H' i
set_option maxHeartbeats 1000000 in
theorem equalE_any (ao ao' : Option Addr) (n m cap cap' : Nat) (L H L' H' : Nat → Int) (hn : n ≤ 1048576) (hm : m ≤ 1048576) (w : World) (hr : ERow w ao n L H) (hr' : ERow w ao' m L' H') :
    Calls Try.prog 104 #[.slice ao n cap, .slice ao' m cap'] w fun e w' => BAns e (SameE n m L H L' H') ∧ Below w.heap.size w w' := by
  by_cases hnm : n = m
  rotate_left
  · have HN : Hid (¬ SameE n m L H L' H') := fun h => hnm h.1
    have hnm' : ¬ (n : Int) = (m : Int) := by omega
    go_enter Try.func104, Try.ntmps104
    go_wp2
    go_ret
    exact ⟨bans_no HN.out, Below.refl _ _⟩
  subst hnm
  go_enter Try.func104, Try.ntmps104
  go_wp2
  go_loopw [13] (fun x wr => ∃ k : Nat, k ≤ n ∧ x = .int .i64 k ∧ (∀ i, i < k → L i = L' i ∧ H i = H' i) ∧ Below w.heap.size w wr) (fun x _ => n - (intOf x).toNat)
  case atStart => exact ⟨0, Nat.zero_le _, rfl, fun i hi => by omega, Below.refl _ _⟩
  case round =>
    obtain ⟨k, hk, rfl, hall, hbel⟩ := hrel
    have HA : Hid (∀ i, i < k → L i = L' i ∧ H i = H' i) := hall
    clear hall
    by_cases hlt : k < n
    rotate_left
    · have hkn : k = n := by omega
      subst hkn
      go_wp2
      go_ret
      exact ⟨bans_yes ⟨rfl, HA.out⟩, hbel⟩
    obtain ⟨b, o, hao, c0, c1⟩ := (hr.below hbel (Nat.le_refl _)) k hlt
    subst hao
    obtain ⟨b', o', hao', d0, d1⟩ := (hr'.below hbel (Nat.le_refl _)) k hlt
    subst hao'
    have hk1 : (0 : Int) ≤ (k : Int) := by omega
    have hk2 : (k : Int) < (n : Int) := by omega
    by_cases he : L k = L' k ∧ H k = H' k
    · have HE : Hid (L k = L' k ∧ H k = H' k) := he
      obtain ⟨e1, e2⟩ := he
      rw [← e1] at d0
      rw [← e2] at d1
      clear e1 e2
      go_wp2
      go_quiet (fail)
      go_wp2
      go_roundw
      case rel => exact ⟨k + 1, by omega, by go_num, fun i hi => by
        by_cases x : i = k
        · subst x; exact HE.out
        · exact HA.out i (by omega), below_drewN hbel _⟩
      case measure => simp [intOf]; omega
    · have HE : Hid (¬ SameE n n L H L' H') := fun h => he (h.2 k hlt)
      by_cases h1 : L k = L' k
      · have h2 : ¬ H k = H' k := fun h => he ⟨h1, h⟩
        rw [← h1] at d0
        clear h1 he
        go_wp2
        go_quiet (fail)
        go_wp2
        go_ret
        exact ⟨bans_no HE.out, below_drewN hbel _⟩
      · clear he
        go_wp2
        go_quiet (fail)
        go_wp2
        go_ret
        exact ⟨bans_no HE.out, below_drewN hbel _⟩

end Go.Proofs.Ytmnohgcjdhokdah

/-
  Ranks, the program's: the same list, in new memory. For every list of at most 2^20 numbers.
-/
set_option linter.unusedVariables false
set_option linter.unusedSimpArgs false
namespace Go.Proofs.Ytmnohgcjdhokdah
open Go.RowKit
attribute [local go_sem ↓] Go.wp_at_zero Go.wp_at_succ

set_option maxHeartbeats 1000000 in
theorem implRanks_any (ao : Option Addr) (n cap : Nat) (P : Nat → Int) (hn : n ≤ 1048576) (w : World) (hr : IRow w ao n P) :
    Calls Try.prog 78 #[.slice ao n cap] w fun e w' => Ans w w' e (lenR n P) (rk P (-1) n) := by
  by_cases h2 : 24 < n
  · have h2' : 24 < (n : Int) := by omega
    have hL : lenR n P = 0 := by
      have : ¬ n ≤ 24 := by omega
      simp [lenR, okR, this]
    rw [hL]
    go_enter Try.func78, Try.ntmps78
    go_wp2
    go_ret
    exact ⟨_, _, rfl, fun h => by omega, (Below.refl _ _).alloc (Nat.le_refl _) _⟩
  have h2' : ¬ 24 < (n : Int) := by omega
  have hmk := make_ints n hn
  go_enter Try.func78, Try.ntmps78
  go_wp2
  clear hmk
  go_loopw [16] (fun i wr => ∃ k : Nat, k ≤ n ∧ i = .int .i64 k ∧ IHas wr w.heap.size n (fun j => if j < k then -1 else 0) ∧ Below w.heap.size w wr) (fun i _ => n - (intOf i).toNat)
  case atStart => exact ⟨0, Nat.zero_le _, rfl, (made_ints w n).congr (fun j _ => by simp), (Below.refl _ _).alloc (Nat.le_refl _) _⟩
  case round =>
    obtain ⟨k, hk, rfl, hown, hbel⟩ := hrel
    by_cases hlt : k < n
    · have d0 := hown.cell hlt
      have z0 := hown.frozen k
      have R := hown.set k (-1)
      have S := hbel.setCell (p := ⟨w.heap.size, k, none⟩) (Nat.le_refl _) (.int .i64 (-1))
      clear hown
      go_wp2
      go_roundw
      case rel =>
        refine ⟨k + 1, by omega, by go_num, R.congr (fun j hj => ?_), S⟩
        by_cases e : j = k
        · subst e; simp
        · simp only [if_neg e]
          by_cases hl : j < k
          · rw [if_pos hl, if_pos (by omega)]
          · rw [if_neg hl, if_neg (by omega)]
      case measure => simp [intOf]; omega
    have hkn : k = n := by omega
    subst hkn
    have hown0 := hown.congr (g := rk P (-1) 0) (fun j hj => by simp [rk, hj])
    clear hown
    go_wp2
    go_loopw [25] (fun i wq => ∃ m : Nat, m ≤ k ∧ i = .int .i64 m ∧ eachB k P m = true ∧ IHas wq w.heap.size k (rk P (-1) m) ∧ Below w.heap.size w wq) (fun i _ => k - (intOf i).toNat)
    case atStart => exact ⟨0, Nat.zero_le _, rfl, rfl, hown0, hbel⟩
    case round =>
      clear hown0 hbel
      obtain ⟨m, hm, rfl, hea, hown, hbel⟩ := hrel
      have HE : Hid (eachB k P m = true) := hea
      clear hea
      by_cases hlt : m < k
      rotate_left
      · have hmk : m = k := by omega
        subst hmk
        have HL : Hid (lenR m P = m) := by
          show lenR m P = m
          by_cases h0 : m = 0
          · subst h0; simp [lenR]
          · have h1 : 1 ≤ m := by omega
            have h24 : m ≤ 24 := by omega
            simp [lenR, okR, HE.out, h1, h24]
        go_wp2
        go_ret
        exact ans_of HL.out ⟨_, _, rfl, fun _ => ⟨_, rfl, Nat.le_refl _, hown⟩, hbel⟩
      obtain ⟨b, o, hao, c0⟩ := (hr.below hbel (Nat.le_refl _)) m hlt
      subst hao
      have hm0 : (0 : Int) ≤ (m : Int) := by omega
      have hmk : (m : Int) < (k : Int) := by omega
      rcases Bool.eq_false_or_eq_true (inB (P m) 0 ((k : Int) - 1)) with hi | hi
      rotate_left
      · have HL : Hid (lenR k P = 0) := by
          show lenR k P = 0
          have : eachB k P k = false := eachB_no (k := m) (by simp [eachB, hi]) hlt
          simp [lenR, okR, this]
        go_wp2_with (go_at_call 79; refine (placeOk_any _ _ _).mono ?_; rintro e w1 ⟨rfl, rfl⟩)
        go_ret
        exact ans_of HL.out ⟨_, _, rfl, fun h => by omega, hbel.alloc hbel.size _⟩
      have hq0 : 0 ≤ P m ∧ P m ≤ (k : Int) - 1 := by simpa [inB] using hi
      obtain ⟨q, hq⟩ : ∃ q : Nat, P m = (q : Int) := ⟨(P m).toNat, by omega⟩
      have hS : Hid (∀ j, rk P (-1) (m + 1) j = if j = q then (m : Int) else rk P (-1) m j) := rk_at hq
      have hE : Hid (eachB k P (m + 1) = !sn P m q) := eachB_at HE.out hq hi
      rw [hq] at c0 hi hq0
      clear hq
      have hqn : q < k := by omega
      have d0 := hown.cell hqn
      have z0 := hown.frozen q
      have R := hown.set q (m : Int)
      have S := hbel.setCell (p := ⟨w.heap.size, q, none⟩) (Nat.le_refl _) (.int .i64 (m : Int))
      have hqn' : (q : Int) < (k : Int) := by omega
      have hrs := rk_sn P m q
      rcases Bool.eq_false_or_eq_true (sn P m q) with hs | hs
      · have hge : 0 ≤ rk P (-1) m q := hrs.1 hs
        clear hrs
        have HL : Hid (lenR k P = 0) := by
          show lenR k P = 0
          have : eachB k P k = false := eachB_no (k := m) (by rw [hE.out, hs]; rfl) hlt
          simp [lenR, okR, this]
        go_wp2_with (go_at_call 79; refine (placeOk_any _ _ _).mono ?_; rintro e w1 ⟨rfl, rfl⟩)
        go_ret
        exact ans_of HL.out ⟨_, _, rfl, fun h => by omega, hbel.alloc hbel.size _⟩
      · have hge : ¬ 0 ≤ rk P (-1) m q := fun h => by rw [hrs.2 h] at hs; cases hs
        clear hrs hown
        go_wp2_with (go_at_call 79; refine (placeOk_any _ _ _).mono ?_; rintro e w1 ⟨rfl, rfl⟩)
        go_roundw
        case rel => exact ⟨m + 1, by omega, by go_num, by rw [hE.out, hs]; rfl, R.congr (fun j _ => (hS.out j).symm), S⟩
        case measure => simp [intOf]; omega

end Go.Proofs.Ytmnohgcjdhokdah

/-
  OrderOk, the document's and the program's, at every map and every list of at most 2^20 numbers.
-/
set_option linter.unusedVariables false
set_option linter.unusedSimpArgs false
namespace Go.Proofs.Ytmnohgcjdhokdah
open Go.RowKit
attribute [local go_sem ↓] Go.wp_at_zero Go.wp_at_succ

set_option maxHeartbeats 1000000 in
theorem implOrderOk_any (p : Int) (ao : Option Addr) (n cap : Nat) (F T G : Nat → Int) (po : Option Addr) (m pcap : Nat) (P : Nat → Int) (hn : n ≤ 1048576) (hm : m ≤ 1048576) (w : World) (hr : Row w ao n F T G) (hp : IRow w po m P) :
    Calls Try.prog 103 #[.agg #[.int .i64 p, .slice ao n cap], .slice po m pcap] w fun e w' => e = .returned (.bool (ordB p n F T G m P)) ∧ Below w.heap.size w w' := by
  rcases Bool.eq_false_or_eq_true (graphB p n F T G) with h | h
  rotate_left
  · go_enter Try.func103, Try.ntmps103
    go_wp2_with (go_at_call 99; refine (implGraphOk_any p ao n cap F T G hn _ (hr.alloc _)).mono ?_; rintro e w1 ⟨rfl, hb1⟩)
    go_ret
    exact ⟨ret_bool (by simp [ordB, h]), unbox hb1 (by simp)⟩
  rcases Bool.eq_false_or_eq_true ((m : Int) == p) with h2 | h2
  rotate_left
  · go_enter Try.func103, Try.ntmps103
    go_wp2_with (go_at_call 99; refine (implGraphOk_any p ao n cap F T G hn _ (hr.alloc _)).mono ?_; rintro e w1 ⟨rfl, hb1⟩; obtain ⟨hc, hf⟩ := bcell hb1)
    go_ret
    exact ⟨ret_bool (by simp only [ordB, h, h2]; rfl), unbox hb1 (by simp)⟩
  have hL : ((lenR m P : Int) == (m : Int)) = okR m P := by
    have hp1 : 1 ≤ p ∧ p ≤ 24 := by
      simp [graphB, inB] at h
      omega
    have hmp : (m : Int) = p := by simpa using h2
    unfold lenR
    cases hk : okR m P
    · rw [Bool.eq_false_iff]; simp; omega
    · simp
  have HL : Hid (((lenR m P : Int) == (m : Int)) = okR m P) := hL
  clear hL
  go_enter Try.func103, Try.ntmps103
  go_wp2_with (first | (go_at_call 99; refine (implGraphOk_any p ao n cap F T G hn _ (hr.alloc _)).mono ?_; rintro e w1 ⟨rfl, hb1⟩; obtain ⟨hc, hf⟩ := bcell hb1) | (go_at_call 78; refine (implRanks_any po m pcap P hm _ ((hp.alloc _).below hb1 (Nat.le_refl _))).mono ?_; rintro e w2 ⟨aoR, capR, rfl, _, hb2⟩))
  go_ret
  exact ⟨ret_bool (by rw [HL.out]; simp only [ordB, h, h2]; rfl), unbox (below_next hb1 (Nat.le_refl _) hb2) (by simp)⟩

end Go.Proofs.Ytmnohgcjdhokdah

/-
  The program's generic sort, with the edges' comparison: the same edges, in their order. For lists of at most a million edges.
-/
set_option linter.unusedVariables false
set_option linter.unusedSimpArgs false
namespace Go.Proofs.Ytmnohgcjdhokdah
open Go.RowKit
attribute [local go_sem ↓] Go.wp_at_zero Go.wp_at_succ

/-- The front part is in its order, x has been put into it behind a. -/
theorem srt_put {a d : List Pr} {x : Pr} (h : Srt (a ++ d)) (hd : ∀ e ∈ d, lt2 x e) (ha : a = [] ∨ ∃ a' y, a = a' ++ [y] ∧ ¬ lt2 x y) : Srt (a ++ x :: d) := by
  unfold Srt at h ⊢
  rw [List.pairwise_append] at h ⊢
  refine ⟨h.1, ?_, fun e he f hf => ?_⟩
  · rw [List.pairwise_cons]
    refine ⟨fun e he hlt => ?_, h.2.1⟩
    exact lt2_irr x (lt2_trans (hd e he) hlt)
  · simp at hf
    rcases hf with rfl | hf
    · rcases ha with rfl | ⟨a', y, rfl, hy⟩
      · simp at he
      · rw [List.mem_append] at he
        rcases he with he | he
        · have := h.1
          rw [List.pairwise_append] at this
          exact le2_trans (this.2.2 e he y (by simp)) hy
        · simp at he
          subst he; exact hy
    · exact h.2.2 e he f hf

theorem put_perm {a d pre suf l : List Pr} {x : Pr} {k : Nat} (had : a ++ d = pre) (hk : pre.length = k) (h : (pre ++ x :: suf).Perm l) : (a ++ x :: d).length = k + 1 ∧ (a ++ x :: d ++ suf).Perm l := by
  subst had
  refine ⟨by simp at hk ⊢; omega, List.Perm.trans ?_ h⟩
  have e1 : a ++ x :: d ++ suf = a ++ x :: (d ++ suf) := by simp
  have e2 : a ++ d ++ x :: suf = (a ++ d) ++ x :: suf := rfl
  rw [e1]
  refine List.perm_middle.trans (List.Perm.trans ?_ List.perm_middle.symm)
  rw [List.append_assoc]
theorem gr_drewN' (w : World) (n : Nat) (row : Option Nat) : w.grownBy (w.drewN n) row := ⟨rfl, rfl, rfl, Nat.le_refl _, fun _ _ _ => rfl⟩

set_option maxRecDepth 100000 in
set_option maxHeartbeats 4000000 in
theorem sortBy_any (g cap : Nat) (l : List Pr) (hn : l.length ≤ 1000000) (w : World) (hl : ELies w g l) :
    Calls Try.prog 121 #[.slice (some ⟨g, 0, none⟩) l.length cap, .func (.func 112) #[] #[]] w fun e w' => e = .returned (.tuple #[]) ∧ (∃ l' : List Pr, l'.length = l.length ∧ l'.Perm l ∧ Srt l' ∧ ELies w' g l') ∧ w.grownBy w' (some g) := by
  go_enter Try.func121, Try.ntmps121
  go_wp2
  go_loopw [4] (fun x wr => ∃ (k : Nat) (pre suf : List Pr), x = .int .i64 k ∧ 1 ≤ k ∧ pre.length = min k l.length ∧ pre.length + suf.length = l.length ∧ (pre ++ suf).Perm l ∧ Srt pre ∧ ELies wr g (pre ++ suf) ∧ w.grownBy wr (some g)) (fun x _ => l.length - (intOf x).toNat)
  case atStart =>
    match l, hl with
    | [], hl => exact ⟨1, [], [], rfl, Nat.le_refl _, by simp, rfl, List.Perm.refl _, List.Pairwise.nil, hl, World.grownBy.refl _ _⟩
    | x :: t, hl => exact ⟨1, [x], t, rfl, Nat.le_refl _, by simp, by simp; omega, List.Perm.refl _, by simp [Srt], hl, World.grownBy.refl _ _⟩
  case round =>
    obtain ⟨k, pre, suf, rfl, hk1, hpk, hps, hperm, hsrt, hE, hg⟩ := hrel
    by_cases hlt : k < l.length
    rotate_left
    · have hsuf : suf = [] := List.eq_nil_of_length_eq_zero (by omega)
      subst hsuf
      rw [List.append_nil] at hE hperm
      have hlen : pre.length = l.length := by simpa using hps
      go_wp2
      simp [bodyPost, results, Try.results121, go_sem]
      exact ⟨⟨pre, hlen, hperm, hsrt, hE⟩, hg⟩
    have hpk' : pre.length = k := by omega
    match suf, hps with
    | [], hps => simp at hps; omega
    | x :: suf', hps =>
    have HP : Hid ((pre ++ x :: suf').Perm l) := hperm
    clear hperm hpk
    go_wp2
    go_loopw [5] (fun y wq => ∃ (i : Nat) (a d : List Pr), y = .int .i64 i ∧ a.length = i ∧ a ++ d = pre ∧ (∀ e ∈ d, lt2 x e) ∧ ELies wq g (a ++ x :: (d ++ suf')) ∧ w.grownBy wq (some g)) (fun y _ => (intOf y).toNat)
    case atStart => exact ⟨k, pre, [], rfl, hpk', List.append_nil _, fun e he => by simp at he, by simpa using hE, hg⟩
    case round =>
      clear hE hg
      obtain ⟨i, a, d, rfl, hai, had, hdx, hE, hg⟩ := hrel
      by_cases hi : 0 < i
      rotate_left
      · have hd : decide ((0 : Int) < (i : Int)) = false := by simp; omega
        have ha0 : a = [] := List.eq_nil_of_length_eq_zero (by omega)
        have HN : Hid (Srt (a ++ x :: d)) := srt_put (by rw [had]; exact hsrt) hdx (Or.inl ha0)
        have hpl : Hid ((a ++ x :: d).length = k + 1 ∧ (a ++ x :: d ++ suf').Perm l) := put_perm had hpk' HP.out
        have hE' : ELies wr g (a ++ x :: d ++ suf') := by simpa using hE
        go_wp2
        go_quiet (fail)
        go_wp2
        go_roundw
        case rel =>
          have := hpl.out
          exact ⟨k + 1, a ++ x :: d, suf', by go_num, by omega, by omega, by simp at hps; omega, this.2, HN.out, EHas.of_block hE' rfl, hg.trans (gr_drewN' _ _ _)⟩
        case measure => simp [intOf]; omega
      have hane : a ≠ [] := fun e => by subst e; simp at hai; omega
      obtain ⟨a', y, haa⟩ : ∃ a' y, a = a' ++ [y] := ⟨a.dropLast, a.getLast hane, (List.dropLast_concat_getLast hane).symm⟩
      have ha1 : a'.length = i - 1 := by rw [haa] at hai; simp at hai; omega
      have hx := hE.at
      rw [hai] at hx
      obtain ⟨c0, c1⟩ := hx
      have hE2 : ELies wr g (a' ++ y :: x :: (d ++ suf')) := by rw [haa] at hE; simpa using hE
      have hy := hE2.at
      rw [ha1] at hy
      obtain ⟨d0, d1⟩ := hy
      have hin : i < l.length := by
        have := congrArg List.length had
        simp at this
        omega
      have hkd : decide ((0 : Int) < (i : Int)) = true := by simp; omega
      have hi0 : (0 : Int) ≤ (i : Int) := by omega
      have hi2 : (i : Int) < (l.length : Int) := by omega
      have hk1' : (0 : Int) ≤ (i : Int) - 1 := by omega
      have hk2 : (i : Int) - 1 < (l.length : Int) := by omega
      have hk3 : IntKind.i64.wrap ((i : Int) - 1) = (i : Int) - 1 := by rw [IntKind.wrap_i64]; omega
      have hk4 : ((i : Int) - 1).toNat = i - 1 := by omega
      have hk5 : (1 : Int) ≤ (i : Int) := by omega
      have hk6 : (i : Int) ≤ (l.length : Int) := by omega
      have hk7 : 1 ≤ i := by omega
      have hcu := cmpE_up x.1 x.2 y.1 y.2
      have hg1 : w.grownBy wr.drew (some g) := hg.trans ⟨rfl, rfl, rfl, Nat.le_refl _, fun _ _ _ => rfl⟩
      by_cases hlt2 : lt2 x y
      · have hge : cmpE x.1 x.2 y.1 y.2 < 0 := hcu.2 hlt2
        clear hcu
        go_wp2
        go_region_held3 (fun w' => w'.cell? ⟨g, i * 2, none⟩ = some (.int .i64 x.1) ∧ w'.cell? ⟨g, i * 2 + 1, none⟩ = some (.int .i64 x.2) ∧ w'.cell? ⟨g, (i - 1) * 2, none⟩ = some (.int .i64 y.1) ∧ w'.cell? ⟨g, (i - 1) * 2 + 1, none⟩ = some (.int .i64 y.2))
          (first | (go_split_ands; refine ⟨?_, ?_, ?_, ?_⟩ <;> exact keep_cell hb2 (Nat.le_refl _) (by assumption)) | go_keep)
          (first | (go_at_call 112; refine (compareEdges_any _ _ _ _ _).mono ?_; rintro e w2 ⟨rfl, hb2⟩))
        have hg2 : w.grownBy w2 (some g) := hg1.trans ⟨hb2.os, hb2.tape, hb2.output, hb2.size, fun k hk _ => hb2.block k hk⟩
        have hE3 : ELies w2 g (a' ++ y :: x :: (d ++ suf')) := EHas.next (w := wr.drew) (EHas.of_block hE2 rfl) hb2
        have k0 : w2.cell? ⟨g, i * 2, none⟩ = some (.int .i64 x.1) := keep_cell hb2 (Nat.le_refl _) (by exact c0)
        have k1 : w2.cell? ⟨g, i * 2 + 1, none⟩ = some (.int .i64 x.2) := keep_cell hb2 (Nat.le_refl _) (by exact c1)
        have k2 : w2.cell? ⟨g, (i - 1) * 2, none⟩ = some (.int .i64 y.1) := keep_cell hb2 (Nat.le_refl _) (by exact d0)
        have k3 : w2.cell? ⟨g, (i - 1) * 2 + 1, none⟩ = some (.int .i64 y.2) := keep_cell hb2 (Nat.le_refl _) (by exact d1)
        have z0 := EHas.frozen hE3 (i * 2)
        have z1 := EHas.frozen hE3 (i * 2 + 1)
        have z2 := EHas.frozen hE3 ((i - 1) * 2)
        have z3 := EHas.frozen hE3 ((i - 1) * 2 + 1)
        have hii : a'.length + 1 = i := by omega
        have HR : Hid (ELies ((((w2.setCell ⟨g, i * 2, none⟩ (.int .i64 y.1)).setCell ⟨g, i * 2 + 1, none⟩ (.int .i64 y.2)).setCell ⟨g, (i - 1) * 2, none⟩ (.int .i64 x.1)).setCell ⟨g, (i - 1) * 2 + 1, none⟩ (.int .i64 x.2)) g (a' ++ x :: y :: (d ++ suf'))) := by
          have h4 := (((EHas.set hE3 (i * 2) y.1).set (i * 2 + 1) y.2).set ((i - 1) * 2) x.1).set ((i - 1) * 2 + 1) x.2
          have hlen : (a' ++ y :: x :: (d ++ suf')).length = (a' ++ x :: y :: (d ++ suf')).length := by simp
          rw [hlen] at h4
          refine EHas.congr h4 (fun j _ => ?_)
          have := er_swap a' (d ++ suf') x y j
          rw [hii, ha1] at this
          exact this
        have HG : Hid (w.grownBy ((((w2.setCell ⟨g, i * 2, none⟩ (.int .i64 y.1)).setCell ⟨g, i * 2 + 1, none⟩ (.int .i64 y.2)).setCell ⟨g, (i - 1) * 2, none⟩ (.int .i64 x.1)).setCell ⟨g, (i - 1) * 2 + 1, none⟩ (.int .i64 x.2)) (some g)) := (((hg2.trans (gr_setCell _ g _ _)).trans (gr_setCell _ g _ _)).trans (gr_setCell _ g _ _)).trans (gr_setCell _ g _ _)
        have HX : Hid ((∀ e ∈ y :: d, lt2 x e) ∧ a' ++ (y :: d) = pre) := ⟨fun e he => by
          simp at he
          rcases he with rfl | he
          · exact hlt2
          · exact hdx e he, by rw [← had, haa]; simp⟩
        have n1 : ¬ ((i - 1) * 2 = i * 2) := by omega
        have n2 : ¬ ((i - 1) * 2 = i * 2 + 1) := by omega
        have n3 : ¬ ((i - 1) * 2 + 1 = i * 2) := by omega
        have n4 : ¬ ((i - 1) * 2 + 1 = i * 2 + 1) := by omega
        clear hE hE2 hE3 hg hg1 hg2 hb2 c0 c1 d0 d1 hdx had haa hane hlt2 hge
        go_wp2
        go_big_region
        go_wp2
        go_roundw
        case rel => exact ⟨i - 1, a', y :: d, by rw [show ((i - 1 : Nat) : Int) = (i : Int) - 1 by omega], ha1, HX.out.2, HX.out.1, EHas.of_block HR.out rfl, HG.out.trans ⟨rfl, rfl, rfl, Nat.le_refl _, fun _ _ _ => rfl⟩⟩
        case measure => simp [intOf]; omega
      · have hge : ¬ cmpE x.1 x.2 y.1 y.2 < 0 := fun h => hlt2 (hcu.1 h)
        have hged : decide (cmpE x.1 x.2 y.1 y.2 < 0) = false := by simpa using hge
        clear hcu
        have HN : Hid (Srt (a ++ x :: d)) := srt_put (by rw [had]; exact hsrt) hdx (Or.inr ⟨a', y, haa, hlt2⟩)
        have hpl : Hid ((a ++ x :: d).length = k + 1 ∧ (a ++ x :: d ++ suf').Perm l) := put_perm had hpk' HP.out
        have hE' : ELies wr g (a ++ x :: d ++ suf') := by simpa using hE
        go_wp2
        go_region_held3 (fun w' => w'.cell? ⟨g, i * 2, none⟩ = some (.int .i64 x.1) ∧ w'.cell? ⟨g, i * 2 + 1, none⟩ = some (.int .i64 x.2) ∧ w'.cell? ⟨g, (i - 1) * 2, none⟩ = some (.int .i64 y.1) ∧ w'.cell? ⟨g, (i - 1) * 2 + 1, none⟩ = some (.int .i64 y.2))
          (first | (go_split_ands; refine ⟨?_, ?_, ?_, ?_⟩ <;> exact keep_cell hb2 (Nat.le_refl _) (by assumption)) | go_keep)
          (first | (go_at_call 112; refine (compareEdges_any _ _ _ _ _).mono ?_; rintro e w2 ⟨rfl, hb2⟩))
        have hg2 : w.grownBy w2 (some g) := hg1.trans ⟨hb2.os, hb2.tape, hb2.output, hb2.size, fun k hk _ => hb2.block k hk⟩
        have hE3 : ELies w2 g (a ++ x :: d ++ suf') := EHas.next (w := wr.drew) (EHas.of_block hE' rfl) hb2
        clear hE hE2 hE' hg hg1 hb2 c0 c1 d0 d1
        go_wp2
        go_roundw
        case rel =>
          have := hpl.out
          exact ⟨k + 1, a ++ x :: d, suf', by go_num, by omega, by omega, by simp at hps; omega, this.2, HN.out, hE3, hg2⟩
        case measure => simp [intOf]; omega

end Go.Proofs.Ytmnohgcjdhokdah

/-
  The program's mesh in memory: read, written; two places joined, two places parted.
-/
set_option linter.unusedVariables false
set_option linter.unusedSimpArgs false
namespace Go.Proofs.Ytmnohgcjdhokdah
open Go.RowKit
attribute [local go_sem ↓] Go.wp_at_zero Go.wp_at_succ

/-- The cells of a mesh: how many places, a square of 24 rows, who is gone. -/
def meshV (p : Int) (B : Nat → Nat → Bool) (gone : Nat → Bool) (j : Nat) : Value := if j = 0 then .int .i64 p else if j < 577 then .bool (B ((j - 1) / 24) ((j - 1) % 24)) else .bool (gone (j - 577))
def MeshAt (w : World) (bm : Nat) (p : Int) (B : Nat → Nat → Bool) (gone : Nat → Bool) : Prop := VHas w bm 160 601 (meshV p B gone)
theorem MeshAt.places {w : World} {bm : Nat} {p : Int} {B : Nat → Nat → Bool} {gone : Nat → Bool} (h : MeshAt w bm p B gone) : w.cell? ⟨bm, 0, none⟩ = some (.int .i64 p) := by
  rw [VHas.cell h (by omega)]; rfl
theorem MeshAt.at {w : World} {bm : Nat} {p : Int} {B : Nat → Nat → Bool} {gone : Nat → Bool} (h : MeshAt w bm p B gone) {x y : Nat} (hx : x < 24) (hy : y < 24) : w.cell? ⟨bm, 1 + x * 24 + y, none⟩ = some (.bool (B x y)) := by
  rw [VHas.cell h (by omega)]
  unfold meshV
  rw [if_neg (by omega), if_pos (by omega)]
  have h1 : (1 + x * 24 + y - 1) / 24 = x := by omega
  have h2 : (1 + x * 24 + y - 1) % 24 = y := by omega
  rw [h1, h2]
theorem MeshAt.gone {w : World} {bm : Nat} {p : Int} {B : Nat → Nat → Bool} {gone : Nat → Bool} (h : MeshAt w bm p B gone) {x : Nat} (hx : x < 24) : w.cell? ⟨bm, 577 + x, none⟩ = some (.bool (gone x)) := by
  rw [VHas.cell h (by omega)]
  unfold meshV
  rw [if_neg (by omega), if_neg (by omega)]
  have h1 : 577 + x - 577 = x := by omega
  rw [h1]
theorem MeshAt.put {w : World} {bm : Nat} {p : Int} {B : Nat → Nat → Bool} {gone : Nat → Bool} (h : MeshAt w bm p B gone) {x y : Nat} (hx : x < 24) (hy : y < 24) (v : Bool) : MeshAt (w.setCell ⟨bm, 1 + x * 24 + y, none⟩ (.bool v)) bm p (upd B x y v) gone := by
  refine (VHas.set h (1 + x * 24 + y) (.bool v)).congr (fun j hj => ?_)
  by_cases e : j = 1 + x * 24 + y
  · subst e
    rw [if_pos rfl]
    unfold meshV upd
    have h1 : (1 + x * 24 + y - 1) / 24 = x := by omega
    have h2 : (1 + x * 24 + y - 1) % 24 = y := by omega
    rw [if_neg (by omega), if_pos (by omega), h1, h2, if_pos ⟨rfl, rfl⟩]
  · rw [if_neg e]
    unfold meshV upd
    by_cases h0 : j = 0
    · rw [if_pos h0, if_pos h0]
    · rw [if_neg h0, if_neg h0]
      by_cases h1 : j < 577
      · rw [if_pos h1, if_pos h1, if_neg (by omega)]
      · rw [if_neg h1, if_neg h1]
theorem MeshAt.go {w : World} {bm : Nat} {p : Int} {B : Nat → Nat → Bool} {gone : Nat → Bool} (h : MeshAt w bm p B gone) {x : Nat} (hx : x < 24) : MeshAt (w.setCell ⟨bm, 577 + x, none⟩ (.bool true)) bm p B (goneU gone x) := by
  refine (VHas.set h (577 + x) (.bool true)).congr (fun j hj => ?_)
  by_cases e : j = 577 + x
  · subst e
    rw [if_pos rfl]
    unfold meshV goneU
    have h1 : 577 + x - 577 = x := by omega
    rw [if_neg (by omega), if_neg (by omega), h1, if_pos rfl]
  · rw [if_neg e]
    unfold meshV goneU
    by_cases h0 : j = 0
    · rw [if_pos h0, if_pos h0]
    · rw [if_neg h0, if_neg h0]
      by_cases h1 : j < 577
      · rw [if_pos h1, if_pos h1]
      · rw [if_neg h1, if_neg h1, if_neg (by omega)]
theorem MeshAt.same {w : World} {bm : Nat} {p : Int} {B B' : Nat → Nat → Bool} {gone : Nat → Bool} (h : MeshAt w bm p B gone) (e : ∀ x y, x < 24 → y < 24 → B x y = B' x y) : MeshAt w bm p B' gone := by
  refine VHas.congr h (fun j hj => ?_)
  unfold meshV
  by_cases h0 : j = 0
  · rw [if_pos h0, if_pos h0]
  · rw [if_neg h0, if_neg h0]
    by_cases h1 : j < 577
    · rw [if_pos h1, if_pos h1, e _ _ (by omega) (by omega)]
    · rw [if_neg h1, if_neg h1]

set_option maxHeartbeats 1000000 in
theorem join_any (bm a b : Nat) (p : Int) (B : Nat → Nat → Bool) (gone : Nat → Bool) (ha : a < 24) (hb : b < 24) (hne : a ≠ b) (w : World) (h : MeshAt w bm p B gone) :
    Calls Try.prog 129 #[.pointer (some ⟨bm, 0, none⟩), .int .i64 (a : Int), .int .i64 (b : Int)] w fun e w' => e = .returned (.tuple #[]) ∧ MeshAt w' bm p (upd2 B a b true) gone ∧ w.grownBy w' (some bm) := by
  have d0 := h.at ha hb
  have z0 := VHas.frozen h (1 + a * 24 + b)
  have d1 := h.at hb ha
  have z1 := VHas.frozen h (1 + b * 24 + a)
  have n1 : ¬ 1 + a * 24 + b = 1 + b * 24 + a := by omega
  have n2 : ¬ 1 + b * 24 + a = 1 + a * 24 + b := by omega
  have ha' : (a : Int) < 24 := by omega
  have hb' : (b : Int) < 24 := by omega
  go_enter Try.func129, Try.ntmps129
  go_wp2
  simp [bodyPost, results, Try.results129, go_sem]
  exact ⟨(h.put ha hb true).put hb ha true, (gr_setCell w bm (1 + a * 24 + b) (.bool true)).trans (gr_setCell _ bm (1 + b * 24 + a) (.bool true))⟩

set_option maxHeartbeats 1000000 in
theorem part_any (bm a b : Nat) (p : Int) (B : Nat → Nat → Bool) (gone : Nat → Bool) (ha : a < 24) (hb : b < 24) (hne : a ≠ b) (w : World) (h : MeshAt w bm p B gone) :
    Calls Try.prog 131 #[.pointer (some ⟨bm, 0, none⟩), .int .i64 (a : Int), .int .i64 (b : Int)] w fun e w' => e = .returned (.tuple #[]) ∧ MeshAt w' bm p (upd2 B a b false) gone ∧ w.grownBy w' (some bm) := by
  have d0 := h.at ha hb
  have z0 := VHas.frozen h (1 + a * 24 + b)
  have d1 := h.at hb ha
  have z1 := VHas.frozen h (1 + b * 24 + a)
  have n1 : ¬ 1 + a * 24 + b = 1 + b * 24 + a := by omega
  have n2 : ¬ 1 + b * 24 + a = 1 + a * 24 + b := by omega
  have ha' : (a : Int) < 24 := by omega
  have hb' : (b : Int) < 24 := by omega
  go_enter Try.func131, Try.ntmps131
  go_wp2
  simp [bodyPost, results, Try.results131, go_sem]
  exact ⟨(h.put ha hb false).put hb ha false, (gr_setCell w bm (1 + a * 24 + b) (.bool false)).trans (gr_setCell _ bm (1 + b * 24 + a) (.bool false))⟩

/-- A new mesh's cells. -/
def isF : Option Value → Bool
  | some (.bool b) => !b
  | _ => false
set_option maxRecDepth 100000 in
theorem zero_cells : (List.range 601).all (fun j => j == 0 || isF (Try.zeroCells160[j]?)) = true := by kernel_rfl
set_option maxRecDepth 100000 in
theorem zero_size : Try.zeroCells160.size = 601 := by kernel_rfl
theorem mesh_new (w : World) (p : Int) : MeshAt (w.alloc (.cells (Try.zeroCells160.setIfInBounds 0 (.int .i64 p)) 160)) w.heap.size p (fun _ _ => false) (fun _ => false) := by
  refine ⟨_, Go.Deep.blk_alloc_new _ _, by rw [Array.size_setIfInBounds, zero_size]; exact Nat.le_refl _, fun j hj => ?_⟩
  unfold meshV
  by_cases h0 : j = 0
  · subst h0
    rw [if_pos rfl, Array.getElem?_setIfInBounds_self_of_lt (by rw [zero_size]; omega)]
  · rw [if_neg h0, Array.getElem?_setIfInBounds_ne (fun e => h0 e.symm)]
    have := List.all_eq_true.1 zero_cells j (List.mem_range.2 hj)
    have hz : (j == 0) = false := by simpa using h0
    rw [hz, Bool.false_or] at this
    have e : Try.zeroCells160[j]? = some (.bool false) := by
      generalize Try.zeroCells160[j]? = o at this
      cases o with
      | none => cases this
      | some v =>
        cases v <;> first | (simp [isF] at this; done) | (simp [isF] at this; subst this; rfl)
    rw [e]
    split <;> rfl

set_option maxHeartbeats 1000000 in
theorem meshOf_any (p : Nat) (ao : Option Addr) (n cap : Nat) (F T G : Nat → Int) (hp : p ≤ 24) (hn : n ≤ 100) (hF : ∀ k, k < n → 0 ≤ F k ∧ F k < (p : Int)) (hT : ∀ k, k < n → 0 ≤ T k ∧ T k < (p : Int)) (hFT : ∀ k, k < n → F k ≠ T k) (w : World) (hr : Row w ao n F T G) :
    Calls Try.prog 118 #[.agg #[.int .i64 (p : Int), .slice ao n cap]] w fun e w' => ∃ bm, e = .returned (.pointer (some ⟨bm, 0, none⟩)) ∧ w.heap.size ≤ bm ∧ MeshAt w' bm (p : Int) (nbA F T n) (fun _ => false) ∧ Below w.heap.size w w' := by
  go_enter Try.func118, Try.ntmps118
  go_wp2
  go_loopw [13] (fun i wr => ∃ k : Nat, k ≤ n ∧ i = .int .i64 k ∧ MeshAt wr (w.heap.size + 1) (p : Int) (nbA F T k) (fun _ => false) ∧ Below (w.heap.size + 1) (w.alloc (.cells #[.int .i64 (p : Int), .slice ao n cap] 47)) wr) (fun i _ => n - (intOf i).toNat)
  case atStart => exact ⟨0, Nat.zero_le _, rfl, by have := mesh_new (w.alloc (.cells #[.int .i64 (p : Int), .slice ao n cap] 47)) (p : Int); simp only [World.size_alloc] at this; exact this, (Below.refl _ _).alloc (by simp) _⟩
  case round =>
    obtain ⟨k, hk, rfl, hM, hbel⟩ := hrel
    have hml := VHas.lt hM
    by_cases hlt : k < n
    rotate_left
    · have hkn : k = n := by omega
      subst hkn
      go_wp2
      go_ret
      exact ⟨_, rfl, by omega, hM, unbox hbel (by omega)⟩
    obtain ⟨b, o, hao, c0, c1, c2⟩ := ((hr.alloc _).below hbel (by simp)) k hlt
    subst hao
    have hf0 := hF k hlt
    have ht0 := hT k hlt
    have hne0 := hFT k hlt
    obtain ⟨f, hf⟩ : ∃ f : Nat, F k = (f : Int) := ⟨(F k).toNat, by omega⟩
    obtain ⟨t, ht⟩ : ∃ t : Nat, T k = (t : Int) := ⟨(T k).toNat, by omega⟩
    have hst : Hid (nbA F T (k + 1) = upd2 (nbA F T k) f t true) := by
      show upd2 (nbA F T k) (F k).toNat (T k).toNat true = _
      rw [hf, ht]; rfl
    rw [hf] at c0 hf0 hne0
    rw [ht] at c1 ht0 hne0
    clear hf ht
    have hft : f ≠ t := by omega
    have hal := (Below.refl wr.heap.size wr).alloc (Nat.le_refl _) (.cells #[.int .i64 (f : Int), .int .i64 (t : Int), .int .i64 (G k)] 89)
    have hj := join_any (w.heap.size + 1) f t (p : Int) _ _ (by omega) (by omega) hft _ (VHas.next hM hal)
    have hB2 := below_next hbel (by simp) hal
    clear hM hbel
    go_wp2_with (go_at_call 129; refine hj.mono ?_; rintro e w2 ⟨rfl, hM2, hg2⟩)
    go_roundw
    case rel => exact ⟨k + 1, by omega, by go_num, by rw [hst.out]; exact hM2, hB2.trans (gr_below hg2 (Nat.le_refl _) (by have := hB2.size; simpa using this))⟩
    case measure => simp [intOf]; omega

end Go.Proofs.Ytmnohgcjdhokdah
