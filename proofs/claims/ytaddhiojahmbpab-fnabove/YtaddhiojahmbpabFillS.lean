/-
  The fill, the document's: the edges in their order. For maps of at most 24 places and orders that have each place once.
-/
import Derived.Test.YtaddhiojahmbpabFillP
import Derived.Test.YtaddhiojahmbpabEList
import Derived.Test.YtaddhiojahmbpabOrdTake
import Derived.Test.YtaddhiojahmbpabRankSpec
import Derived.Test.YtaddhiojahmbpabOrderSp
set_option linter.unusedVariables false
set_option linter.unusedSimpArgs false
namespace Go.Proofs.Ytaddhiojahmbpab
open Go.RowKit
attribute [local go_sem ↓] Go.wp_at_zero Go.wp_at_succ

/-- Is one among the first k of rank h? -/
def dnB (R L : Nat → Int) (h : Int) : Nat → Bool
  | 0 => false
  | i + 1 => dnB R L h i || R (L i).toNat == h
theorem dn_mem {R L : Nat → Int} {h : Int} : ∀ k, dnB R L h k = true ↔ ∃ i, i < k ∧ R (L i).toNat = h
  | 0 => by simp [dnB]
  | k + 1 => by
    show (dnB R L h k || R (L k).toNat == h) = true ↔ _
    rw [Bool.or_eq_true, dn_mem k, beq_iff_eq]
    constructor
    · rintro (⟨i, h1, h2⟩ | h1)
      · exact ⟨i, by omega, h2⟩
      · exact ⟨k, by omega, h1⟩
    · rintro ⟨i, h1, h2⟩
      by_cases e : i = k
      · subst e; exact Or.inr h2
      · exact Or.inl ⟨i, by omega, h2⟩
theorem dn_once {p : Nat} {P : Nat → Int} {f : Nat → Bool} (he : eachB p P p = true) {i : Nat} (hi : i < cntB f p) {h : Int} (hr : rk P 0 p (nf f p i).toNat = h) : dnB (rk P 0 p) (nf f p) h i = false := by
  cases hd : dnB (rk P 0 p) (nf f p) h i
  · rfl
  obtain ⟨j, hj, e⟩ := (dn_mem i).1 hd
  obtain ⟨q, q1, q2, q3, q4⟩ := nf_at p i hi
  obtain ⟨q', r1, r2, r3, r4⟩ := nf_at (f := f) p j (by omega)
  rw [q2] at hr
  rw [r2] at e
  simp at hr e
  obtain ⟨k, _, h1, h2⟩ := rk_of he 0 q1
  obtain ⟨k', _, h3, h4⟩ := rk_of he 0 r1
  have : k = k' := by omega
  subst this
  have : q = q' := by omega
  subst this
  omega
theorem dn_end {p : Nat} {P : Nat → Int} {f : Nat → Bool} (he : eachB p P p = true) {h : Nat} (hh : h < p) : dnB (rk P 0 p) (nf f p) (h : Int) (cntB f p) = f (P h).toNat := by
  rw [Bool.eq_iff_iff, dn_mem]
  have hP := (each_in p he h hh).1
  constructor
  · rintro ⟨i, hi, e⟩
    obtain ⟨q, q1, q2, q3, q4⟩ := nf_at p i hi
    rw [q2] at e
    simp at e
    obtain ⟨k, _, h1, h2⟩ := rk_of he 0 q1
    have : k = h := by omega
    subst this
    have : (P k).toNat = q := by omega
    rw [this]; exact q3
  · intro hf
    have hlt : cntB f (P h).toNat < cntB f p := by
      have := cntB_mono f (show (P h).toNat + 1 ≤ p by omega)
      rw [cntB_succ hf] at this
      omega
    refine ⟨_, hlt, ?_⟩
    obtain ⟨q, q1, q2, q3, q4⟩ := nf_at p _ hlt
    have := cntB_inj q3 hf q4
    rw [q2, this, Int.toNat_natCast]
    exact rk_is 0 p he h hh
theorem rowS_nil {B : Nat → Nat → Bool} {P : Nat → Int} (r : Nat) : ∀ k, k ≤ r + 1 → rowS B P r k = []
  | 0, _ => rfl
  | k + 1, h => by
    show rowS B P r k ++ _ = []
    rw [rowS_nil r k (by omega), if_neg (by omega)]; rfl
/-- The list while the neighbours of one rank are gone through for one h. -/
def midS (B : Nat → Nat → Bool) (P : Nat → Int) (p r h i : Nat) : List Pr := allS B P p r ++ rowS B P r h ++ (if dnB (rk P 0 p) (nf (sqO B P r (P r).toNat) p) (h : Int) i = true then [((r : Int), (h : Int))] else [])
theorem midS_zero (B : Nat → Nat → Bool) (P : Nat → Int) (p r h : Nat) : midS B P p r h 0 = allS B P p r ++ rowS B P r h := by simp [midS, dnB]
theorem midS_end {B : Nat → Nat → Bool} {P : Nat → Int} {p : Nat} (he : eachB p P p = true) {r h : Nat} (hr : r < h) (hh : h < p) : midS B P p r h (cntB (sqO B P r (P r).toNat) p) = allS B P p r ++ rowS B P r (h + 1) := by
  unfold midS
  rw [dn_end he hh, List.append_assoc]
  congr 1
  show _ = rowS B P r h ++ (if r < h ∧ sqO B P r (P r).toNat (P h).toNat = true then [((r : Int), (h : Int))] else [])
  congr 1
  by_cases x : sqO B P r (P r).toNat (P h).toNat = true
  · rw [if_pos x, if_pos ⟨hr, x⟩]
  · rw [if_neg x, if_neg (fun c => x c.2)]
theorem midS_hit {B : Nat → Nat → Bool} {P : Nat → Int} {p r h i : Nat} (he : eachB p P p = true) (hi : i < cntB (sqO B P r (P r).toNat) p) (hr : rk P 0 p (nf (sqO B P r (P r).toNat) p i).toNat = (h : Int)) : midS B P p r h (i + 1) = midS B P p r h i ++ [((r : Int), (h : Int))] := by
  have h0 := dn_once he hi hr
  have h1 : dnB (rk P 0 p) (nf (sqO B P r (P r).toNat) p) (h : Int) (i + 1) = true := by
    show (dnB _ _ _ i || _) = true
    rw [hr]; simp
  unfold midS
  rw [h0, h1]; simp
theorem midS_miss {B : Nat → Nat → Bool} {P : Nat → Int} {p r h i : Nat} (hr : ¬ rk P 0 p (nf (sqO B P r (P r).toNat) p i).toNat = (h : Int)) : midS B P p r h (i + 1) = midS B P p r h i := by
  have h1 : dnB (rk P 0 p) (nf (sqO B P r (P r).toNat) p) (h : Int) (i + 1) = dnB (rk P 0 p) (nf (sqO B P r (P r).toNat) p) (h : Int) i := by
    show (dnB _ _ _ i || _) = _
    have : (rk P 0 p (nf (sqO B P r (P r).toNat) p i).toNat == (h : Int)) = false := by simpa using hr
    rw [this]; simp
  unfold midS
  rw [h1]
theorem rowS_len {B : Nat → Nat → Bool} {P : Nat → Int} (r : Nat) : ∀ k, (rowS B P r k).length ≤ k
  | 0 => Nat.le_refl _
  | k + 1 => by
    show (rowS B P r k ++ _).length ≤ k + 1
    have := rowS_len (B := B) (P := P) r k
    rw [List.length_append]
    split <;> simp <;> omega
theorem allS_len {B : Nat → Nat → Bool} {P : Nat → Int} {p : Nat} (hp : p ≤ 24) : ∀ R, (allS B P p R).length ≤ 24 * R
  | 0 => Nat.le_refl _
  | R + 1 => by
    show (allS B P p R ++ rowS B P R p).length ≤ _
    have := allS_len (B := B) (P := P) hp R
    have := rowS_len (B := B) (P := P) R p
    rw [List.length_append]; omega
theorem midS_len {B : Nat → Nat → Bool} {P : Nat → Int} {p r h i : Nat} (hp : p ≤ 24) (hr : r ≤ 24) (hh : h ≤ 24) : (midS B P p r h i).length ≤ 1000 := by
  unfold midS
  have := allS_len (B := B) (P := P) hp r
  have := rowS_len (B := B) (P := P) r h
  rw [List.length_append, List.length_append]
  split <;> simp <;> omega

/-- What stands while the fill is made. -/
structure FS (w : World) (gv : Value) (p bs rb : Nat) (B : Nat → Nat → Bool) (R : Nat → Int) (g c : Nat) (l : List Pr) (W : World) : Prop where
  bel : Below (w.heap.size + 1) (w.alloc (.cells #[.int .i64 (p : Int), gv] 32)) W
  sq : Sq W bs p B
  rks : IHas W rb p R
  own : EOwn W (w.heap.size + 1) g c l
  ne : (g ≠ bs ∧ g ≠ rb ∧ bs ≠ rb) ∧ w.heap.size + 1 ≤ bs ∧ w.heap.size + 1 ≤ rb
theorem FS.next {w : World} {gv : Value} {p bs rb : Nat} {B : Nat → Nat → Bool} {R : Nat → Int} {g c : Nat} {l : List Pr} {W W' : World} (h : FS w gv p bs rb B R g c l W) (hb : Below W.heap.size W W') : FS w gv p bs rb B R g c l W' :=
  ⟨below_next h.bel (by simp) hb, VHas.next h.sq hb, h.rks.below hb h.rks.lt, h.own.next hb, h.ne⟩
theorem FS.taken {w : World} {gv : Value} {p bs rb : Nat} {B B' : Nat → Nat → Bool} {R : Nat → Int} {g c : Nat} {l : List Pr} {W W' : World} (h : FS w gv p bs rb B R g c l W) (hg : W.grownBy W' (some bs)) (hs : Sq W' bs p B') : FS w gv p bs rb B' R g c l W' := by
  have hn := h.ne
  have hz := h.bel.size
  simp at hz
  exact ⟨h.bel.trans (gr_below hg (by omega) (by omega)), hs, h.rks.grown hg (by simp; omega), h.own.grown hg (by simp; omega), h.ne⟩
theorem FS.longer {w : World} {gv : Value} {p bs rb : Nat} {B : Nat → Nat → Bool} {R : Nat → Int} {g c : Nat} {l : List Pr} {W W' : World} (h : FS w gv p bs rb B R g c l W) (hg : W.grownBy W' (some g)) {g' c' : Nat} {l' : List Pr} (ho : EOwn W' (w.heap.size + 1) g' c' l') (hat : g' = g ∨ g' = W.heap.size) : FS w gv p bs rb B R g' c' l' W' := by
  have hn := h.ne
  have hz := h.bel.size
  have h1 := h.rks.lt
  have h2 := VHas.lt h.sq
  have h3 := h.own.base
  simp at hz
  exact ⟨h.bel.trans (gr_below hg (by omega) (by omega)), VHas.grown h.sq hg (by simp; omega), h.rks.grown hg (by simp; omega), ho, by omega⟩

set_option maxRecDepth 100000 in
set_option maxHeartbeats 4000000 in
theorem l4Fill_any (p : Nat) (ao : Option Addr) (n cap : Nat) (F T G : Nat → Int) (po : Option Addr) (pcap : Nat) (P : Nat → Int) (hp1 : 1 ≤ p) (hp : p ≤ 24) (hn : n ≤ 100) (hF : ∀ k, k < n → 0 ≤ F k ∧ F k < (p : Int)) (hT : ∀ k, k < n → 0 ≤ T k ∧ T k < (p : Int)) (hFT : ∀ k, k < n → F k ≠ T k) (he : eachB p P p = true) (w : World) (hr : Row w ao n F T G) (hq : IRow w po p P) :
    Calls Try.prog 21 #[.agg #[.int .i64 (p : Int), .slice ao n cap], .slice po p pcap] w fun e w' => ∃ g c, e = .returned (.slice (some ⟨g, 0, none⟩) (allS (nbA F T n) P p p).length c) ∧ w.heap.size ≤ g ∧ EOwn w' w.heap.size g c (allS (nbA F T n) P p p) ∧ Below w.heap.size w w' := by
  have hfair : Fair (nbA F T n) := fair_nbA n (fun k hk => by have := hF k hk; have := hT k hk; have := hFT k hk; omega)
  have hsq := fun W hr' => l3Square_any p ao n cap F T G hp1 hp hn hF hT hFT W hr'
  generalize nbA F T n = B at hfair hsq ⊢
  have HSQ : Hid (∀ W, Row W ao n F T G → Calls Try.prog 32 #[.agg #[.int .i64 (p : Int), .slice ao n cap]] W fun e w' => e = .returned (.slice (some ⟨W.heap.size + 1, 0, none⟩) (p * p) (p * p)) ∧ Sq w' (W.heap.size + 1) p B ∧ Below W.heap.size W w') := hsq
  have HF : Hid (Fair B) := hfair
  have HE : Hid (eachB p P p = true) := he
  clear hfair hsq hF hT hFT he
  go_enter Try.func21, Try.ntmps21
  go_wp2_with fail
  refine (HSQ.out _ (hr.alloc _)).mono ?_
  rintro e w1 ⟨rfl, hS1, hb1⟩
  have hA1 := boxed hb1
  clear hb1
  go_wp2_with fail
  refine (l3Ranks_any po p pcap P hp HE.out _ ((hq.alloc _).below hA1 (by simp))).mono ?_
  rintro e w2 ⟨rfl, hR2, hb2⟩
  have hS2 := VHas.next hS1 hb2
  have hA2 := below_next hA1 (by simp) hb2
  have hl1 := VHas.lt hS1
  have hl2 := hR2.lt
  simp only [World.size_alloc] at hl1 hS2
  clear hS1 hA1 hb2
  have hFS : FS w (.slice ao n cap) p (w.heap.size + 1 + 1) w1.heap.size B (rk P 0 p) w2.heap.size 0 [] (w2.alloc (.cells #[] 38)) :=
    ⟨hA2.alloc (by have := hA2.size; simp at this; omega) _, VHas.alloc hS2 _, hR2.below ((Below.refl _ _).alloc (Nat.le_refl _) _) hR2.lt, EOwn.empty w2 (by omega), by omega⟩
  clear hA2 hS2 hR2
  generalize w1.heap.size = rb at hFS hl1 hl2
  go_wp2_with fail
  go_loopw [7, 8] (fun d x wr => ∃ r g c : Nat, r ≤ p ∧ x = .int .i64 r ∧ d = .slice (some ⟨g, 0, none⟩) (allS B P p r).length c ∧ FS w (.slice ao n cap) p (w.heap.size + 1 + 1) rb (sqO B P r) (rk P 0 p) g c (allS B P p r) wr) (fun _ x _ => p - (intOf x).toNat)
  case atStart => exact ⟨0, w2.heap.size, 0, Nat.zero_le _, rfl, rfl, hFS⟩
  case round =>
    clear hFS
    obtain ⟨r, g, c, hrp, rfl, rfl, hS⟩ := hrel
    by_cases hlt : r < p
    rotate_left
    · have e : r = p := by omega
      subst e
      have hb := hS.own.base
      go_wp2
      go_ret
      exact ⟨g, c, rfl, by omega, hS.own.from (Nat.le_succ _), unbox hS.bel (by omega)⟩
    have hlt' : (r : Int) < (p : Int) := by omega
    have hr0 : (0 : Int) ≤ (r : Int) := by omega
    obtain ⟨ha0, ha1⟩ := (each_in p HE.out r hlt).1
    obtain ⟨a, ha⟩ : ∃ a : Nat, P r = (a : Int) := ⟨(P r).toNat, by omega⟩
    have hap : a < p := by omega
    obtain ⟨b, o, hpo, c0⟩ := ((hq.alloc _).below hS.bel (by simp)) r hlt
    have hbl : b < w.heap.size := by
      obtain ⟨b', o', e', k0⟩ := hq r hlt
      rw [hpo] at e'
      simp at e'
      have := lt_of_cell k0
      omega
    subst hpo
    rw [ha] at c0
    have HPa : Hid (P r = (a : Int)) := ha
    obtain ⟨x0, x1, xs⟩ := box2 hS.bel
    have hnb := fun W hs => l3Neighbours_any (w.heap.size + 1 + 1) p a (sqO B P r) hp hap W hs
    have htk := fun W hs => l3Take_any (w.heap.size + 1 + 1) p a (sqO B P r) hp hap (sqO_fair HF.out P r) W hs
    have htk2 : Hid (∀ W, Sq W (w.heap.size + 1 + 1) p (sqO B P r) → Calls Try.prog 35 #[.slice (some ⟨w.heap.size + 1 + 1, 0, none⟩) (p * p) (p * p), .int .i64 (p : Int), .int .i64 (a : Int)] W fun e w' => e = .returned (.tuple #[]) ∧ Sq w' (w.heap.size + 1 + 1) p (sqO B P (r + 1)) ∧ W.grownBy w' (some (w.heap.size + 1 + 1))) := by
      intro W hs
      have e : sqO B P (r + 1) = tk (sqO B P r) a := by show tk (sqO B P r) (P r).toNat = _; rw [ha]; rfl
      rw [e]
      exact htk W hs
    have hrow : sqO B P r (P r).toNat = sqO B P r a := by rw [ha]; rfl
    obtain ⟨m, hm⟩ : ∃ m, cntB (sqO B P r a) p = m := ⟨_, rfl⟩
    obtain ⟨K, hK⟩ : ∃ K, nf (sqO B P r a) p = K := ⟨_, rfl⟩
    have HK : Hid (cntB (sqO B P r (P r).toNat) p = m ∧ nf (sqO B P r (P r).toNat) p = K) := by rw [hrow]; exact ⟨hm, hK⟩
    have hm24 : m ≤ 24 := by rw [← hm]; exact Nat.le_trans (cntB_le _ _) hp
    have HKI : Hid (∀ i, i < m → ∃ q : Nat, q < p ∧ K i = (q : Int)) := fun i hi => by
      rw [← hm] at hi
      obtain ⟨q, q1, q2, _⟩ := nf_at p i hi
      exact ⟨q, q1, by rw [← hK]; exact q2⟩
    rw [hm, hK] at hnb
    have HNB : Hid (∀ W, Sq W (w.heap.size + 1 + 1) p (sqO B P r) → Calls Try.prog 34 #[.slice (some ⟨w.heap.size + 1 + 1, 0, none⟩) (p * p) (p * p), .int .i64 (p : Int), .int .i64 (a : Int)] W fun e w' => ∃ g c, e = .returned (.slice (some ⟨g, 0, none⟩) m c) ∧ W.heap.size ≤ g ∧ IHas w' g m K ∧ Below W.heap.size W w') := hnb
    clear hnb htk hrow hm hK ha ha0 ha1
    have hsd : Sq wr.drew (w.heap.size + 1 + 1) p (sqO B P r) := VHas.of_block hS.sq rfl
    go_wp2
    go_region_held3 (fun w' => w'.cell? ⟨w.heap.size, 0, none⟩ = some (.int .i64 (p : Int)) ∧ w'.cell? ⟨b, o + r, none⟩ = some (.int .i64 (a : Int)))
      (first | (go_split_ands; refine ⟨?_, ?_⟩ <;> exact keep_cell hb3 (Nat.le_refl _) (by assumption)) | go_keep)
      (first | (go_at_call 34; refine (HNB.out _ hsd).mono ?_; rintro e w3 ⟨gl, cl, rfl, hgl, hI3, hb3⟩))
    have hS3 : FS w (.slice ao n cap) p (w.heap.size + 1 + 1) rb (sqO B P r) (rk P 0 p) g c (allS B P p r) w3 := FS.next (W := wr.drew) ⟨hS.bel.drew, hsd, hS.rks.of_block rfl, hS.own.of_block rfl, hS.ne⟩ hb3
    have hgg : g < w3.heap.size := hS3.own.lt
    have hne3 : g ≠ gl ∧ w.heap.size + 1 + 1 ≠ gl := by
      have h1 := hS.own.lt
      have h2 := VHas.lt hS.sq
      have h3 : wr.heap.size ≤ gl := hgl
      omega
    have hy0 := keep_cell hb3 (Nat.le_refl _) (show wr.drew.cell? ⟨w.heap.size, 0, none⟩ = some (.int .i64 (p : Int)) from x0)
    have hy1 := keep_cell hb3 (Nat.le_refl _) (show wr.drew.cell? ⟨b, o + r, none⟩ = some (.int .i64 (a : Int)) from c0)
    have hsd3 : Sq w3.drew (w.heap.size + 1 + 1) p (sqO B P r) := VHas.of_block hS3.sq rfl
    clear hS hsd hb3 hgl x0 x1 c0 hgg
    go_wp2
    go_region_held3 (fun w' => w'.cell? ⟨w.heap.size, 0, none⟩ = some (.int .i64 (p : Int)) ∧ w'.cell? ⟨b, o + r, none⟩ = some (.int .i64 (a : Int)))
      (first | (go_split_ands; refine ⟨hg4.cell (by assumption) (by simp; omega), hg4.cell (by assumption) (by simp; omega)⟩) | go_keep)
      (first | (go_at_call 35; refine (htk2.out _ hsd3).mono ?_; rintro e w4 ⟨rfl, hs4, hg4⟩))
    have hS4 : FS w (.slice ao n cap) p (w.heap.size + 1 + 1) rb (sqO B P (r + 1)) (rk P 0 p) g c (allS B P p r) w4 := FS.taken (W := w3.drew) ⟨hS3.bel.drew, hsd3, hS3.rks.of_block rfl, hS3.own.of_block rfl, hS3.ne⟩ hg4 hs4
    have hI4 : IHas w4 gl m K := (IHas.of_block (w' := w3.drew) hI3 rfl).grown hg4 (by simp; omega)
    clear hS3 hI3 hsd3 hs4 hg4 hy0 hy1 htk2 HNB
    go_wp2
    go_loopw [7, 10] (fun d x wq => ∃ h g c : Nat, r < h ∧ h ≤ p ∧ x = .int .i64 h ∧ d = .slice (some ⟨g, 0, none⟩) (allS B P p r ++ rowS B P r h).length c ∧ FS w (.slice ao n cap) p (w.heap.size + 1 + 1) rb (sqO B P (r + 1)) (rk P 0 p) g c (allS B P p r ++ rowS B P r h) wq ∧ IHas wq gl m K ∧ g ≠ gl) (fun _ x _ => p - (intOf x).toNat)
    case atStart => exact ⟨r + 1, g, c, by omega, by omega, by go_num, by rw [rowS_nil r (r + 1) (Nat.le_refl _), List.append_nil], by rw [rowS_nil r (r + 1) (Nat.le_refl _), List.append_nil]; exact hS4, hI4, hne3.1⟩
    case round =>
      clear hS4 hI4 hne3
      obtain ⟨h, g, c, hrh, hhp, rfl, rfl, hS, hI, hne⟩ := hrel
      by_cases hlh : h < p
      rotate_left
      · have e : h = p := by omega
        subst e
        go_wp2
        go_roundw
        case rel => exact ⟨r + 1, g, c, by omega, by go_num, rfl, hS⟩
        case measure => simp [intOf]; omega
      have hlh' : (h : Int) < (p : Int) := by omega
      go_wp2
      go_loopw [7, 11] (fun d x wz => ∃ i g c : Nat, i ≤ m ∧ x = .int .i64 i ∧ d = .slice (some ⟨g, 0, none⟩) (midS B P p r h i).length c ∧ FS w (.slice ao n cap) p (w.heap.size + 1 + 1) rb (sqO B P (r + 1)) (rk P 0 p) g c (midS B P p r h i) wz ∧ IHas wz gl m K ∧ g ≠ gl) (fun _ x _ => m - (intOf x).toNat)
      case atStart => exact ⟨0, g, c, Nat.zero_le _, rfl, by rw [midS_zero], by rw [midS_zero]; exact hS, hI, hne⟩
      case round =>
        clear hS hI hne
        obtain ⟨i, g, c, him, rfl, rfl, hS, hI, hne⟩ := hrel
        by_cases hli : i < m
        rotate_left
        · have e : i = m := by omega
          subst e
          have hend : Hid (midS B P p r h i = allS B P p r ++ rowS B P r (h + 1)) := by
            have := midS_end (B := B) HE.out hrh hlh
            rw [HK.out.1] at this
            exact this
          go_wp2
          go_roundw
          case rel => exact ⟨h + 1, g, c, by omega, by omega, by go_num, by rw [hend.out], by rw [← hend.out]; exact hS, hI, hne⟩
          case measure => simp [intOf]; omega
        have hli' : (i : Int) < (m : Int) := by omega
        have hi0 : (0 : Int) ≤ (i : Int) := by omega
        obtain ⟨q, hqp, hKq⟩ := HKI.out i hli
        have d0 := hI.cell hli
        rw [hKq] at d0
        have d1 := hS.rks.cell hqp
        have hqp' : (q : Int) < (p : Int) := by omega
        have hq0 : (0 : Int) ≤ (q : Int) := by omega
        have hlen := midS_len (B := B) (P := P) (r := r) (h := h) (i := i) hp (by omega) (by omega)
        have hIl := hI.lt
        have hRl := hS.rks.lt
        by_cases hit : rk P 0 p q = (h : Int)
        · have HM : Hid (midS B P p r h (i + 1) = midS B P p r h i ++ [((r : Int), (h : Int))]) := by
            refine midS_hit HE.out (by rw [HK.out.1]; exact hli) ?_
            rw [HK.out.2, hKq]
            simpa using hit
          have hlen1 : Hid ((midS B P p r h (i + 1)).length = (midS B P p r h i).length + 1) := by
            show (midS B P p r h (i + 1)).length = _
            rw [HM.out]; simp
          rw [hit] at d1
          have hal := (Below.refl wr.heap.size wr).alloc (Nat.le_refl _) (.cells #[.int .i64 (r : Int), .int .i64 (h : Int)] 38)
          have hS5 := hS.next hal
          have hI5 := hI.below hal hIl
          have hbs := hS.bel.size
          simp only [World.size_alloc] at hbs
          go_wp2_with (at_builtin; refine wpList_append_edge rfl _ _ rfl (w.heap.size + 1) g c (midS B P p r h i) rfl hS5.own wr.heap.size 1 (r : Int) (h : Int) rfl (by simp [go_sem]) (by simp [go_sem]) (by omega) (by simp; omega) ?_; intro g' c' w6 hown6 hgrow6 hat6)
          have hS6 := hS5.longer hgrow6 hown6 hat6
          have hI6 := hI5.grown hgrow6 (by simp; omega)
          have hne6 : g' ≠ gl := by simp at hat6; omega
          clear hS hI hS5 hI5 hown6 hgrow6 hat6 hal d0 d1
          rw [← HM.out] at hS6
          go_wp2
          go_roundw
          case rel => exact ⟨i + 1, g', c', by omega, by go_num, by rw [hlen1.out], hS6, hI6, hne6⟩
          case measure => simp [intOf]; omega
        · have HM : Hid (midS B P p r h (i + 1) = midS B P p r h i) := by
            refine midS_miss ?_
            rw [HK.out.2, hKq]
            simpa using hit
          have hitb : (rk P 0 p q == (h : Int)) = false := by simpa using hit
          go_wp2
          go_roundw
          case rel => exact ⟨i + 1, g, c, by omega, by go_num, by rw [HM.out], by rw [HM.out]; exact hS, hI, hne⟩
          case measure => simp [intOf]; omega

end Go.Proofs.Ytaddhiojahmbpab
