/-
  Helpers: RankSpec, OrderSp, FillS, OrdL, FillL, OrdDoc.
-/
import Derived.Test.YthmpliljffmmcaaGreatDoorPack1
import Derived.Test.YthmpliljffmmcaaGreatDoorPack2
import Derived.Test.YthmpliljffmmcaaGreatDoorPack3
set_option linter.unusedVariables false
set_option linter.unusedSimpArgs false
namespace Go.Proofs.YthmpliljffmmcaaGreatDoor
section
open Go.RowKit
attribute [local go_sem ↓] Go.wp_at_zero Go.wp_at_succ
set_option maxHeartbeats 1000000 in
theorem l3Each_any (ao : Option Addr) (n cap : Nat) (P : Nat → Int) (hn : n ≤ 1048576) (w : World) (hr : IRow w ao n P) :
    Calls Tryz.prog 84 #[.slice ao n cap] w fun e w' => e = .returned (.bool (okR n P)) ∧ Below w.heap.size w w' := by
  by_cases h1 : n < 1
  · have h1' : (n : Int) < 1 := by omega
    go_enter Tryz.func84, Tryz.ntmps84
    go_wp2
    go_ret
    exact ⟨ret_bool (by simp [okR]; omega), Below.refl _ _⟩
  have h1' : ¬ (n : Int) < 1 := by omega
  by_cases h2 : 24 < n
  · have h2' : 24 < (n : Int) := by omega
    go_enter Tryz.func84, Tryz.ntmps84
    go_wp2
    go_ret
    exact ⟨ret_bool (by simp [okR]; omega), Below.refl _ _⟩
  have h2' : ¬ 24 < (n : Int) := by omega
  have hmk := make_bools n hn
  go_enter Tryz.func84, Tryz.ntmps84
  go_wp2
  clear hmk
  go_loopw [5] (fun i wr => ∃ k : Nat, k ≤ n ∧ i = .int .i64 k ∧ eachB n P k = true ∧ BHas wr w.heap.size n (sn P k) ∧ Below w.heap.size w wr) (fun i _ => n - (intOf i).toNat)
  case atStart => exact ⟨0, Nat.zero_le _, rfl, rfl, (made_bools w n).same (fun j _ => by simp [sn]), (Below.refl _ _).alloc nl _⟩
  case round =>
    obtain ⟨k, hk, rfl, hea, hown, hbel⟩ := hrel
    have HE : Hid (eachB n P k = true) := hea
    clear hea
    by_cases hlt : k < n
    rotate_left
    · have hkn : k = n := by omega
      subst hkn
      go_wp2
      go_ret
      exact ⟨ret_bool (by simp [okR, HE.out]; omega), hbel⟩
    obtain ⟨b, o, hao, c0⟩ := (hr.below hbel nl) k hlt
    subst hao
    rcases Bool.eq_false_or_eq_true (inB (P k) 0 ((n : Int) - 1)) with hi | hi
    rotate_left
    · have HN : Hid (eachB n P (k + 1) = false) := by show eachB n P (k + 1) = false; simp [eachB, hi]
      go_wp2_with (go_at_call 33; refine (l1In_any _ _ _ _).mono ?_; rintro e w1 ⟨rfl, rfl⟩)
      go_ret
      exact ⟨ret_bool (by simp [okR, eachB_no HN.out hlt]), hbel⟩
    have hq0 : 0 ≤ P k ∧ P k ≤ (n : Int) - 1 := by simpa [inB] using hi
    obtain ⟨q, hq⟩ : ∃ q : Nat, P k = (q : Int) := ⟨(P k).toNat, by omega⟩
    have hS : Hid (∀ j, sn P (k + 1) j = if j = q then true else sn P k j) := sn_at hq
    have hE : Hid (eachB n P (k + 1) = !sn P k q) := eachB_at HE.out hq hi
    rw [hq] at c0 hi hq0
    clear hq
    have hqn : q < n := by omega
    have d0 := VHas.cell hown hqn
    have z0 := VHas.frozen hown q
    have R := hown.put q true
    have S := hbel.setCell (p := ⟨w.heap.size, q, none⟩) nl (.bool true)
    have hqn' : (q : Int) < (n : Int) := by omega
    rcases Bool.eq_false_or_eq_true (sn P k q) with hs | hs
    · rw [hs] at d0
      go_wp2_with (go_at_call 33; refine (l1In_any _ _ _ _).mono ?_; rintro e w1 ⟨rfl, rfl⟩)
      go_ret
      exact ⟨ret_bool (by simp [okR, eachB_no (by rw [hE.out, hs]; rfl) hlt]), hbel⟩
    · rw [hs] at d0
      clear hown
      go_wp2_with (go_at_call 33; refine (l1In_any _ _ _ _).mono ?_; rintro e w1 ⟨rfl, rfl⟩)
      go_roundw
      case rel => exact ⟨k + 1, by omega, by go_num, by rw [hE.out, hs]; rfl, R.same (fun j _ => (hS.out j).symm), S⟩
      case measure => simp [intOf]; omega
set_option maxHeartbeats 1000000 in
theorem l3Ranks_any (ao : Option Addr) (n cap : Nat) (P : Nat → Int) (h24 : n ≤ 24) (he : eachB n P n = true) (w : World) (hr : IRow w ao n P) :
    Calls Tryz.prog 86 #[.slice ao n cap] w fun e w' => e = .returned (.slice (some ⟨w.heap.size, 0, none⟩) n n) ∧ IHas w' w.heap.size n (rk P 0 n) ∧ Below w.heap.size w w' := by
  have HE : Hid (eachB n P n = true) := he
  clear he
  have hmk := make_ints n (by omega)
  go_enter Tryz.func86, Tryz.ntmps86
  go_wp2
  clear hmk
  go_loopw [4] (fun i wr => ∃ k : Nat, k ≤ n ∧ i = .int .i64 k ∧ IHas wr w.heap.size n (rk P 0 k) ∧ Below w.heap.size w wr) (fun i _ => n - (intOf i).toNat)
  case atStart => exact ⟨0, Nat.zero_le _, rfl, (made_ints w n).congr (fun j _ => by simp [rk]), (Below.refl _ _).alloc nl _⟩
  case round =>
    obtain ⟨k, hk, rfl, hown, hbel⟩ := hrel
    by_cases hlt : k < n
    rotate_left
    · have hkn : k = n := by omega
      subst hkn
      go_wp2
      go_ret
      exact ⟨rfl, hown, hbel⟩
    obtain ⟨b, o, hao, c0⟩ := (hr.below hbel nl) k hlt
    subst hao
    have hi : inB (P k) 0 ((n : Int) - 1) = true := by
      have := eachB_le n HE.out (k + 1) (by omega)
      simp [eachB] at this
      exact this.2.1
    have hq0 : 0 ≤ P k ∧ P k ≤ (n : Int) - 1 := by simpa [inB] using hi
    clear hi
    obtain ⟨q, hq⟩ : ∃ q : Nat, P k = (q : Int) := ⟨(P k).toNat, by omega⟩
    have hS : Hid (∀ j, rk P 0 (k + 1) j = if j = q then (k : Int) else rk P 0 k j) := rk_at hq
    rw [hq] at c0 hq0
    clear hq
    have hqn : q < n := by omega
    have d0 := hown.cell hqn
    have z0 := hown.frozen q
    have R := hown.set q (k : Int)
    have S := hbel.setCell (p := ⟨w.heap.size, q, none⟩) nl (.int .i64 (k : Int))
    have hqn' : (q : Int) < (n : Int) := by omega
    clear hown
    go_wp2
    go_roundw
    case rel => exact ⟨k + 1, by omega, by go_num, R.congr (fun j _ => (hS.out j).symm), S⟩
    case measure => simp [intOf]; omega
def ordB (p : Int) (n : Nat) (F T G : Nat → Int) (m : Nat) (P : Nat → Int) : Bool := graphB p n F T G && ((m : Int) == p && okR m P)
set_option maxHeartbeats 1000000 in
theorem specOrderOk_any (p : Int) (ao : Option Addr) (n cap : Nat) (F T G : Nat → Int) (po : Option Addr) (m pcap : Nat) (P : Nat → Int) (hn : n ≤ 1048576) (hm : m ≤ 1048576) (w : World) (hr : Row w ao n F T G) (hp : IRow w po m P) :
    Calls Tryz.prog 61 #[.agg #[.int .i64 p, .slice ao n cap], .slice po m pcap] w fun e w' => e = .returned (.bool (ordB p n F T G m P)) ∧ Below w.heap.size w w' := by
  rcases Bool.eq_false_or_eq_true (graphB p n F T G) with h | h
  rotate_left
  · go_enter Tryz.func61, Tryz.ntmps61
    go_wp2_with (go_at_call 44; refine (specGraphOk_any p ao n cap F T G hn _ (hr.alloc _)).mono ?_; rintro e w1 ⟨rfl, hb1⟩)
    go_ret
    exact ⟨ret_bool (by simp [ordB, h]), unbox hb1 (by simp)⟩
  rcases Bool.eq_false_or_eq_true ((m : Int) == p) with h2 | h2
  rotate_left
  · go_enter Tryz.func61, Tryz.ntmps61
    go_wp2_with (go_at_call 44; refine (specGraphOk_any p ao n cap F T G hn _ (hr.alloc _)).mono ?_; rintro e w1 ⟨rfl, hb1⟩; obtain ⟨hc, hf⟩ := bcell hb1)
    go_ret
    exact ⟨ret_bool (by simp only [ordB, h, h2]; rfl), unbox hb1 (by simp)⟩
  go_enter Tryz.func61, Tryz.ntmps61
  go_wp2_with (first | (go_at_call 44; refine (specGraphOk_any p ao n cap F T G hn _ (hr.alloc _)).mono ?_; rintro e w1 ⟨rfl, hb1⟩; obtain ⟨hc, hf⟩ := bcell hb1) | (go_at_call 84; refine (l3Each_any po m pcap P hm _ ((hp.alloc _).below hb1 nl)).mono ?_; rintro e w2 ⟨rfl, hb2⟩))
  go_ret
  exact ⟨ret_bool (by simp only [ordB, h, h2]; rfl), unbox (below_next hb1 nl hb2) (by simp)⟩
def dnB (R L : Nat → Int) (h : Int) : Nat → Bool
  | 0 => false
  | i + 1 => dnB R L h i || R (L i).toNat == h
theorem dn_mem {R L : Nat → Int} {h : Int} : ∀ k, dnB R L h k = true ↔ ∃ i, i < k ∧ R (L i).toNat = h
  | 0 => by simp [dnB]
  | k + 1 => by
    show (dnB R L h k || R (L k).toNat == h) = true ↔ _
    rw [Bool.or_eq_true, dn_mem k, beq_iff_eq]
    constructor
    · rintro (⟨i, h1, h2⟩ | h1)
      · exact ⟨i, by omega, h2⟩
      · exact ⟨k, by omega, h1⟩
    · rintro ⟨i, h1, h2⟩
      by_cases e : i = k
      · subst e; exact Or.inr h2
      · exact Or.inl ⟨i, by omega, h2⟩
theorem dn_once {p : Nat} {P : Nat → Int} {f : Nat → Bool} (he : eachB p P p = true) {i : Nat} (hi : i < cntB f p) {h : Int} (hr : rk P 0 p (nf f p i).toNat = h) : dnB (rk P 0 p) (nf f p) h i = false := by
  cases hd : dnB (rk P 0 p) (nf f p) h i
  · rfl
  obtain ⟨j, hj, e⟩ := (dn_mem i).1 hd
  obtain ⟨q, q1, q2, q3, q4⟩ := nf_at p i hi
  obtain ⟨q', r1, r2, r3, r4⟩ := nf_at (f := f) p j (by omega)
  rw [q2] at hr
  rw [r2] at e
  simp at hr e
  obtain ⟨k, _, h1, h2⟩ := rk_of he 0 q1
  obtain ⟨k', _, h3, h4⟩ := rk_of he 0 r1
  have : k = k' := by omega
  subst this
  have : q = q' := by omega
  subst this
  omega
theorem dn_end {p : Nat} {P : Nat → Int} {f : Nat → Bool} (he : eachB p P p = true) {h : Nat} (hh : h < p) : dnB (rk P 0 p) (nf f p) (h : Int) (cntB f p) = f (P h).toNat := by
  rw [Bool.eq_iff_iff, dn_mem]
  have hP := (each_in p he h hh).1
  constructor
  · rintro ⟨i, hi, e⟩
    obtain ⟨q, q1, q2, q3, q4⟩ := nf_at p i hi
    rw [q2] at e
    simp at e
    obtain ⟨k, _, h1, h2⟩ := rk_of he 0 q1
    have : k = h := by omega
    subst this
    have : (P k).toNat = q := by omega
    rw [this]; exact q3
  · intro hf
    have hlt : cntB f (P h).toNat < cntB f p := by
      have := cntB_mono f (show (P h).toNat + 1 ≤ p by omega)
      rw [cntB_succ hf] at this
      omega
    refine ⟨_, hlt, ?_⟩
    obtain ⟨q, q1, q2, q3, q4⟩ := nf_at p _ hlt
    have := cntB_inj q3 hf q4
    rw [q2, this, Int.toNat_natCast]
    exact rk_is 0 p he h hh
theorem rowS_nil {B : Nat → Nat → Bool} {P : Nat → Int} (r : Nat) : ∀ k, k ≤ r + 1 → rowS B P r k = []
  | 0, _ => rfl
  | k + 1, h => by
    show rowS B P r k ++ _ = []
    rw [rowS_nil r k (by omega), if_neg (by omega)]; rfl
def midS (B : Nat → Nat → Bool) (P : Nat → Int) (p r h i : Nat) : List Pr := allS B P p r ++ rowS B P r h ++ (if dnB (rk P 0 p) (nf (sqO B P r (P r).toNat) p) (h : Int) i = true then [((r : Int), (h : Int))] else [])
theorem midS_zero (B : Nat → Nat → Bool) (P : Nat → Int) (p r h : Nat) : midS B P p r h 0 = allS B P p r ++ rowS B P r h := by simp [midS, dnB]
theorem midS_end {B : Nat → Nat → Bool} {P : Nat → Int} {p : Nat} (he : eachB p P p = true) {r h : Nat} (hr : r < h) (hh : h < p) : midS B P p r h (cntB (sqO B P r (P r).toNat) p) = allS B P p r ++ rowS B P r (h + 1) := by
  unfold midS
  rw [dn_end he hh, List.append_assoc]
  congr 1
  show _ = rowS B P r h ++ (if r < h ∧ sqO B P r (P r).toNat (P h).toNat = true then [((r : Int), (h : Int))] else [])
  congr 1
  by_cases x : sqO B P r (P r).toNat (P h).toNat = true
  · rw [if_pos x, if_pos ⟨hr, x⟩]
  · rw [if_neg x, if_neg (fun c => x c.2)]
theorem midS_hit {B : Nat → Nat → Bool} {P : Nat → Int} {p r h i : Nat} (he : eachB p P p = true) (hi : i < cntB (sqO B P r (P r).toNat) p) (hr : rk P 0 p (nf (sqO B P r (P r).toNat) p i).toNat = (h : Int)) : midS B P p r h (i + 1) = midS B P p r h i ++ [((r : Int), (h : Int))] := by
  have h0 := dn_once he hi hr
  have h1 : dnB (rk P 0 p) (nf (sqO B P r (P r).toNat) p) (h : Int) (i + 1) = true := by
    show (dnB _ _ _ i || _) = true
    rw [hr]; simp
  unfold midS
  rw [h0, h1]; simp
theorem midS_miss {B : Nat → Nat → Bool} {P : Nat → Int} {p r h i : Nat} (hr : ¬ rk P 0 p (nf (sqO B P r (P r).toNat) p i).toNat = (h : Int)) : midS B P p r h (i + 1) = midS B P p r h i := by
  have h1 : dnB (rk P 0 p) (nf (sqO B P r (P r).toNat) p) (h : Int) (i + 1) = dnB (rk P 0 p) (nf (sqO B P r (P r).toNat) p) (h : Int) i := by
    show (dnB _ _ _ i || _) = _
    have : (rk P 0 p (nf (sqO B P r (P r).toNat) p i).toNat == (h : Int)) = false := by simpa using hr
    rw [this]; simp
  unfold midS
  rw [h1]
theorem rowS_len {B : Nat → Nat → Bool} {P : Nat → Int} (r : Nat) : ∀ k, (rowS B P r k).length ≤ k
  | 0 => Nat.le_refl _
  | k + 1 => by
    show (rowS B P r k ++ _).length ≤ k + 1
    have := rowS_len (B := B) (P := P) r k
    rw [List.length_append]
    split <;> simp <;> omega
theorem allS_len {B : Nat → Nat → Bool} {P : Nat → Int} {p : Nat} (hp : p ≤ 24) : ∀ R, (allS B P p R).length ≤ 24 * R
  | 0 => Nat.le_refl _
  | R + 1 => by
    show (allS B P p R ++ rowS B P R p).length ≤ _
    have := allS_len (B := B) (P := P) hp R
    have := rowS_len (B := B) (P := P) R p
    rw [List.length_append]; omega
theorem midS_len {B : Nat → Nat → Bool} {P : Nat → Int} {p r h i : Nat} (hp : p ≤ 24) (hr : r ≤ 24) (hh : h ≤ 24) : (midS B P p r h i).length ≤ 1000 := by
  unfold midS
  have := allS_len (B := B) (P := P) hp r
  have := rowS_len (B := B) (P := P) r h
  rw [List.length_append, List.length_append]
  split <;> simp <;> omega
structure FS (w : World) (gv : Value) (p bs rb : Nat) (B : Nat → Nat → Bool) (R : Nat → Int) (g c : Nat) (l : List Pr) (W : World) : Prop where
  bel : Below (w.heap.size + 1) (w.alloc (.cells #[.int .i64 (p : Int), gv] 26)) W
  sq : Sq W bs p B
  rks : IHas W rb p R
  own : EOwn W (w.heap.size + 1) g c l
  ne : (g ≠ bs ∧ g ≠ rb ∧ bs ≠ rb) ∧ w.heap.size + 1 ≤ bs ∧ w.heap.size + 1 ≤ rb
theorem FS.next {w : World} {gv : Value} {p bs rb : Nat} {B : Nat → Nat → Bool} {R : Nat → Int} {g c : Nat} {l : List Pr} {W W' : World} (h : FS w gv p bs rb B R g c l W) (hb : Below W.heap.size W W') : FS w gv p bs rb B R g c l W' :=
  ⟨below_next h.bel (by simp) hb, VHas.next h.sq hb, h.rks.below hb h.rks.lt, h.own.next hb, h.ne⟩
theorem FS.taken {w : World} {gv : Value} {p bs rb : Nat} {B B' : Nat → Nat → Bool} {R : Nat → Int} {g c : Nat} {l : List Pr} {W W' : World} (h : FS w gv p bs rb B R g c l W) (hg : W.grownBy W' (some bs)) (hs : Sq W' bs p B') : FS w gv p bs rb B' R g c l W' := by
  have hn := h.ne
  have hz := h.bel.size
  simp at hz
  exact ⟨h.bel.trans (gr_below hg (by omega) (by omega)), hs, h.rks.grown hg (by simp; omega), h.own.grown hg (by simp; omega), h.ne⟩
theorem FS.longer {w : World} {gv : Value} {p bs rb : Nat} {B : Nat → Nat → Bool} {R : Nat → Int} {g c : Nat} {l : List Pr} {W W' : World} (h : FS w gv p bs rb B R g c l W) (hg : W.grownBy W' (some g)) {g' c' : Nat} {l' : List Pr} (ho : EOwn W' (w.heap.size + 1) g' c' l') (hat : g' = g ∨ g' = W.heap.size) : FS w gv p bs rb B R g' c' l' W' := by
  have hn := h.ne
  have hz := h.bel.size
  have h1 := h.rks.lt
  have h2 := VHas.lt h.sq
  have h3 := h.own.base
  simp at hz
  exact ⟨h.bel.trans (gr_below hg (by omega) (by omega)), VHas.grown h.sq hg (by simp; omega), h.rks.grown hg (by simp; omega), ho, by omega⟩
set_option maxRecDepth 100000 in
set_option maxHeartbeats 4000000 in
theorem l4Fill_any (p : Nat) (ao : Option Addr) (n cap : Nat) (F T G : Nat → Int) (po : Option Addr) (pcap : Nat) (P : Nat → Int) (hp1 : 1 ≤ p) (hp : p ≤ 24) (hn : n ≤ 100) (hF : ∀ k, k < n → 0 ≤ F k ∧ F k < (p : Int)) (hT : ∀ k, k < n → 0 ≤ T k ∧ T k < (p : Int)) (hFT : ∀ k, k < n → F k ≠ T k) (he : eachB p P p = true) (w : World) (hr : Row w ao n F T G) (hq : IRow w po p P) :
    Calls Tryz.prog 62 #[.agg #[.int .i64 (p : Int), .slice ao n cap], .slice po p pcap] w fun e w' => ∃ g c, e = .returned (.slice (some ⟨g, 0, none⟩) (allS (nbA F T n) P p p).length c) ∧ w.heap.size ≤ g ∧ EOwn w' w.heap.size g c (allS (nbA F T n) P p p) ∧ Below w.heap.size w w' := by
  have hfair : Fair (nbA F T n) := fair_nbA n (fun k hk => by have := hF k hk; have := hT k hk; have := hFT k hk; omega)
  have hsq := fun W hr' => l3Square_any p ao n cap F T G hp1 hp hn hF hT hFT W hr'
  generalize nbA F T n = B at hfair hsq ⊢
  have HSQ : Hid (∀ W, Row W ao n F T G → Calls Tryz.prog 85 #[.agg #[.int .i64 (p : Int), .slice ao n cap]] W fun e w' => e = .returned (.slice (some ⟨W.heap.size + 1, 0, none⟩) (p * p) (p * p)) ∧ Sq w' (W.heap.size + 1) p B ∧ Below W.heap.size W w') := hsq
  have HF : Hid (Fair B) := hfair
  have HE : Hid (eachB p P p = true) := he
  clear hfair hsq hF hT hFT he
  go_enter Tryz.func62, Tryz.ntmps62
  go_wp2_with fail
  refine (HSQ.out _ (hr.alloc _)).mono ?_
  rintro e w1 ⟨rfl, hS1, hb1⟩
  have hA1 := boxed hb1
  clear hb1
  go_wp2_with fail
  refine (l3Ranks_any po p pcap P hp HE.out _ ((hq.alloc _).below hA1 (by simp))).mono ?_
  rintro e w2 ⟨rfl, hR2, hb2⟩
  have hS2 := VHas.next hS1 hb2
  have hA2 := below_next hA1 (by simp) hb2
  have hl1 := VHas.lt hS1
  have hl2 := hR2.lt
  simp only [World.size_alloc] at hl1 hS2
  clear hS1 hA1 hb2
  have hFS : FS w (.slice ao n cap) p (w.heap.size + 1 + 1) w1.heap.size B (rk P 0 p) w2.heap.size 0 [] (w2.alloc (.cells #[] 94)) :=
    ⟨hA2.alloc (by have := hA2.size; simp at this; omega) _, VHas.alloc hS2 _, hR2.below ((Below.refl _ _).alloc nl _) hR2.lt, EOwn.empty w2 (by omega), by omega⟩
  clear hA2 hS2 hR2
  generalize w1.heap.size = rb at hFS hl1 hl2
  go_wp2_with fail
  go_loopw [7, 8] (fun d x wr => ∃ r g c : Nat, r ≤ p ∧ x = .int .i64 r ∧ d = .slice (some ⟨g, 0, none⟩) (allS B P p r).length c ∧ FS w (.slice ao n cap) p (w.heap.size + 1 + 1) rb (sqO B P r) (rk P 0 p) g c (allS B P p r) wr) (fun _ x _ => p - (intOf x).toNat)
  case atStart => exact ⟨0, w2.heap.size, 0, Nat.zero_le _, rfl, rfl, hFS⟩
  case round =>
    clear hFS
    obtain ⟨r, g, c, hrp, rfl, rfl, hS⟩ := hrel
    by_cases hlt : r < p
    rotate_left
    · have e : r = p := by omega
      subst e
      have hb := hS.own.base
      go_wp2
      go_ret
      exact ⟨g, c, rfl, by omega, hS.own.from (Nat.le_succ _), unbox hS.bel (by omega)⟩
    have hlt' : (r : Int) < (p : Int) := by omega
    have hr0 : (0 : Int) ≤ (r : Int) := by omega
    obtain ⟨ha0, ha1⟩ := (each_in p HE.out r hlt).1
    obtain ⟨a, ha⟩ : ∃ a : Nat, P r = (a : Int) := ⟨(P r).toNat, by omega⟩
    have hap : a < p := by omega
    obtain ⟨b, o, hpo, c0⟩ := ((hq.alloc _).below hS.bel (by simp)) r hlt
    have hbl : b < w.heap.size := by
      obtain ⟨b', o', e', k0⟩ := hq r hlt
      rw [hpo] at e'
      simp at e'
      have := lt_of_cell k0
      omega
    subst hpo
    rw [ha] at c0
    have HPa : Hid (P r = (a : Int)) := ha
    obtain ⟨x0, x1, xs⟩ := box2 hS.bel
    have hnb := fun W hs => l3Neighbours_any (w.heap.size + 1 + 1) p a (sqO B P r) hp hap W hs
    have htk := fun W hs => l3Take_any (w.heap.size + 1 + 1) p a (sqO B P r) hp hap (sqO_fair HF.out P r) W hs
    have htk2 : Hid (∀ W, Sq W (w.heap.size + 1 + 1) p (sqO B P r) → Calls Tryz.prog 88 #[.slice (some ⟨w.heap.size + 1 + 1, 0, none⟩) (p * p) (p * p), .int .i64 (p : Int), .int .i64 (a : Int)] W fun e w' => e = .returned (.tuple #[]) ∧ Sq w' (w.heap.size + 1 + 1) p (sqO B P (r + 1)) ∧ W.grownBy w' (some (w.heap.size + 1 + 1))) := by
      intro W hs
      have e : sqO B P (r + 1) = tk (sqO B P r) a := by show tk (sqO B P r) (P r).toNat = _; rw [ha]; rfl
      rw [e]
      exact htk W hs
    have hrow : sqO B P r (P r).toNat = sqO B P r a := by rw [ha]; rfl
    obtain ⟨m, hm⟩ : ∃ m, cntB (sqO B P r a) p = m := ⟨_, rfl⟩
    obtain ⟨K, hK⟩ : ∃ K, nf (sqO B P r a) p = K := ⟨_, rfl⟩
    have HK : Hid (cntB (sqO B P r (P r).toNat) p = m ∧ nf (sqO B P r (P r).toNat) p = K) := by rw [hrow]; exact ⟨hm, hK⟩
    have hm24 : m ≤ 24 := by rw [← hm]; exact Nat.le_trans (cntB_le _ _) hp
    have HKI : Hid (∀ i, i < m → ∃ q : Nat, q < p ∧ K i = (q : Int)) := fun i hi => by
      rw [← hm] at hi
      obtain ⟨q, q1, q2, _⟩ := nf_at p i hi
      exact ⟨q, q1, by rw [← hK]; exact q2⟩
    rw [hm, hK] at hnb
    have HNB : Hid (∀ W, Sq W (w.heap.size + 1 + 1) p (sqO B P r) → Calls Tryz.prog 87 #[.slice (some ⟨w.heap.size + 1 + 1, 0, none⟩) (p * p) (p * p), .int .i64 (p : Int), .int .i64 (a : Int)] W fun e w' => ∃ g c, e = .returned (.slice (some ⟨g, 0, none⟩) m c) ∧ W.heap.size ≤ g ∧ IHas w' g m K ∧ Below W.heap.size W w') := hnb
    clear hnb htk hrow hm hK ha ha0 ha1
    have hsd : Sq wr.drew (w.heap.size + 1 + 1) p (sqO B P r) := VHas.of_block hS.sq rfl
    go_wp2
    go_region_held3 (fun w' => w'.cell? ⟨w.heap.size, 0, none⟩ = some (.int .i64 (p : Int)) ∧ w'.cell? ⟨b, o + r, none⟩ = some (.int .i64 (a : Int)))
      (first | (go_split_ands; refine ⟨?_, ?_⟩ <;> exact keep_cell hb3 nl (by assumption)) | go_keep)
      (first | (go_at_call 87; refine (HNB.out _ hsd).mono ?_; rintro e w3 ⟨gl, cl, rfl, hgl, hI3, hb3⟩))
    have hS3 : FS w (.slice ao n cap) p (w.heap.size + 1 + 1) rb (sqO B P r) (rk P 0 p) g c (allS B P p r) w3 := FS.next (W := wr.drew) ⟨hS.bel.drew, hsd, hS.rks.of_block rfl, hS.own.of_block rfl, hS.ne⟩ hb3
    have hgg : g < w3.heap.size := hS3.own.lt
    have hne3 : g ≠ gl ∧ w.heap.size + 1 + 1 ≠ gl := by
      have h1 := hS.own.lt
      have h2 := VHas.lt hS.sq
      have h3 : wr.heap.size ≤ gl := hgl
      omega
    have hy0 := keep_cell hb3 nl (show wr.drew.cell? ⟨w.heap.size, 0, none⟩ = some (.int .i64 (p : Int)) from x0)
    have hy1 := keep_cell hb3 nl (show wr.drew.cell? ⟨b, o + r, none⟩ = some (.int .i64 (a : Int)) from c0)
    have hsd3 : Sq w3.drew (w.heap.size + 1 + 1) p (sqO B P r) := VHas.of_block hS3.sq rfl
    clear hS hsd hb3 hgl x0 x1 c0 hgg
    go_wp2
    go_region_held3 (fun w' => w'.cell? ⟨w.heap.size, 0, none⟩ = some (.int .i64 (p : Int)) ∧ w'.cell? ⟨b, o + r, none⟩ = some (.int .i64 (a : Int)))
      (first | (go_split_ands; refine ⟨hg4.cell (by assumption) (by simp; omega), hg4.cell (by assumption) (by simp; omega)⟩) | go_keep)
      (first | (go_at_call 88; refine (htk2.out _ hsd3).mono ?_; rintro e w4 ⟨rfl, hs4, hg4⟩))
    have hS4 : FS w (.slice ao n cap) p (w.heap.size + 1 + 1) rb (sqO B P (r + 1)) (rk P 0 p) g c (allS B P p r) w4 := FS.taken (W := w3.drew) ⟨hS3.bel.drew, hsd3, hS3.rks.of_block rfl, hS3.own.of_block rfl, hS3.ne⟩ hg4 hs4
    have hI4 : IHas w4 gl m K := (IHas.of_block (w' := w3.drew) hI3 rfl).grown hg4 (by simp; omega)
    clear hS3 hI3 hsd3 hs4 hg4 hy0 hy1 htk2 HNB
    go_wp2
    go_loopw [7, 10] (fun d x wq => ∃ h g c : Nat, r < h ∧ h ≤ p ∧ x = .int .i64 h ∧ d = .slice (some ⟨g, 0, none⟩) (allS B P p r ++ rowS B P r h).length c ∧ FS w (.slice ao n cap) p (w.heap.size + 1 + 1) rb (sqO B P (r + 1)) (rk P 0 p) g c (allS B P p r ++ rowS B P r h) wq ∧ IHas wq gl m K ∧ g ≠ gl) (fun _ x _ => p - (intOf x).toNat)
    case atStart => exact ⟨r + 1, g, c, by omega, by omega, by go_num, by rw [rowS_nil r (r + 1) nl, List.append_nil], by rw [rowS_nil r (r + 1) nl, List.append_nil]; exact hS4, hI4, hne3.1⟩
    case round =>
      clear hS4 hI4 hne3
      obtain ⟨h, g, c, hrh, hhp, rfl, rfl, hS, hI, hne⟩ := hrel
      by_cases hlh : h < p
      rotate_left
      · have e : h = p := by omega
        subst e
        go_wp2
        go_roundw
        case rel => exact ⟨r + 1, g, c, by omega, by go_num, rfl, hS⟩
        case measure => simp [intOf]; omega
      have hlh' : (h : Int) < (p : Int) := by omega
      go_wp2
      go_loopw [7, 11] (fun d x wz => ∃ i g c : Nat, i ≤ m ∧ x = .int .i64 i ∧ d = .slice (some ⟨g, 0, none⟩) (midS B P p r h i).length c ∧ FS w (.slice ao n cap) p (w.heap.size + 1 + 1) rb (sqO B P (r + 1)) (rk P 0 p) g c (midS B P p r h i) wz ∧ IHas wz gl m K ∧ g ≠ gl) (fun _ x _ => m - (intOf x).toNat)
      case atStart => exact ⟨0, g, c, Nat.zero_le _, rfl, by rw [midS_zero], by rw [midS_zero]; exact hS, hI, hne⟩
      case round =>
        clear hS hI hne
        obtain ⟨i, g, c, him, rfl, rfl, hS, hI, hne⟩ := hrel
        by_cases hli : i < m
        rotate_left
        · have e : i = m := by omega
          subst e
          have hend : Hid (midS B P p r h i = allS B P p r ++ rowS B P r (h + 1)) := by
            have := midS_end (B := B) HE.out hrh hlh
            rw [HK.out.1] at this
            exact this
          go_wp2
          go_roundw
          case rel => exact ⟨h + 1, g, c, by omega, by omega, by go_num, by rw [hend.out], by rw [← hend.out]; exact hS, hI, hne⟩
          case measure => simp [intOf]; omega
        have hli' : (i : Int) < (m : Int) := by omega
        have hi0 : (0 : Int) ≤ (i : Int) := by omega
        obtain ⟨q, hqp, hKq⟩ := HKI.out i hli
        have d0 := hI.cell hli
        rw [hKq] at d0
        have d1 := hS.rks.cell hqp
        have hqp' : (q : Int) < (p : Int) := by omega
        have hq0 : (0 : Int) ≤ (q : Int) := by omega
        have hlen := midS_len (B := B) (P := P) (r := r) (h := h) (i := i) hp (by omega) (by omega)
        have hIl := hI.lt
        have hRl := hS.rks.lt
        by_cases hit : rk P 0 p q = (h : Int)
        · have HM : Hid (midS B P p r h (i + 1) = midS B P p r h i ++ [((r : Int), (h : Int))]) := by
            refine midS_hit HE.out (by rw [HK.out.1]; exact hli) ?_
            rw [HK.out.2, hKq]
            simpa using hit
          have hlen1 : Hid ((midS B P p r h (i + 1)).length = (midS B P p r h i).length + 1) := by
            show (midS B P p r h (i + 1)).length = _
            rw [HM.out]; simp
          rw [hit] at d1
          have hal := (Below.refl wr.heap.size wr).alloc nl (.cells #[.int .i64 (r : Int), .int .i64 (h : Int)] 94)
          have hS5 := hS.next hal
          have hI5 := hI.below hal hIl
          have hbs := hS.bel.size
          simp only [World.size_alloc] at hbs
          go_wp2_with (at_builtin; refine wpList_append_edge rfl _ _ rfl (w.heap.size + 1) g c (midS B P p r h i) rfl hS5.own wr.heap.size 1 (r : Int) (h : Int) rfl (by simp [go_sem]) (by simp [go_sem]) (by omega) (by simp; omega) ?_; intro g' c' w6 hown6 hgrow6 hat6)
          have hS6 := hS5.longer hgrow6 hown6 hat6
          have hI6 := hI5.grown hgrow6 (by simp; omega)
          have hne6 : g' ≠ gl := by simp at hat6; omega
          clear hS hI hS5 hI5 hown6 hgrow6 hat6 hal d0 d1
          rw [← HM.out] at hS6
          go_wp2
          go_roundw
          case rel => exact ⟨i + 1, g', c', by omega, by go_num, by rw [hlen1.out], hS6, hI6, hne6⟩
          case measure => simp [intOf]; omega
        · have HM : Hid (midS B P p r h (i + 1) = midS B P p r h i) := by
            refine midS_miss ?_
            rw [HK.out.2, hKq]
            simpa using hit
          have hitb : (rk P 0 p q == (h : Int)) = false := by simpa using hit
          go_wp2
          go_roundw
          case rel => exact ⟨i + 1, g, c, by omega, by go_num, by rw [HM.out], by rw [HM.out]; exact hS, hI, hne⟩
          case measure => simp [intOf]; omega
def lenO (p : Int) (n : Nat) (F T G : Nat → Int) : Nat := if graphB p n F T G then p.toNat else 0
def listO (p : Int) (n : Nat) (F T : Nat → Int) : Nat → Int := (run3 p.toNat (nbA F T n) p.toNat).2.2
theorem lenO_le (p : Int) (n : Nat) (F T G : Nat → Int) : lenO p n F T G ≤ 24 := by
  unfold lenO
  split
  · next h =>
    have := graphB_p h
    simp [inB] at this
    omega
  · omega
theorem ok_arcs {p : Nat} {n : Nat} {F T G : Nat → Int} (h : graphB (p : Int) n F T G = true) : (1 ≤ p ∧ p ≤ 24) ∧ n ≤ 100 ∧ (∀ k, k < n → 0 ≤ F k ∧ F k < (p : Int)) ∧ (∀ k, k < n → 0 ≤ T k ∧ T k < (p : Int)) ∧ ∀ k, k < n → F k ≠ T k := by
  have h1 := graphB_p h
  have h2 := graphB_arcs h
  have he : ∀ k, k < n → (0 ≤ F k ∧ F k < (p : Int)) ∧ (0 ≤ T k ∧ T k < (p : Int)) ∧ F k ≠ T k := fun k hk => by
    have := (arcsB_each n h2.2 k hk).1
    simp [arcB, inB] at this
    omega
  simp [inB] at h1
  exact ⟨by omega, h2.1, fun k hk => (he k hk).1, fun k hk => (he k hk).2.1, fun k hk => (he k hk).2.2⟩
def lstF (p : Int) (n : Nat) (F T : Nat → Int) (P : Nat → Int) : List Pr := allS (nbA F T n) P p.toNat p.toNat
def lenF (p : Int) (n : Nat) (F T G : Nat → Int) (m : Nat) (P : Nat → Int) : Nat := if ordB p n F T G m P then (lstF p n F T P).length else 0
theorem ordB_parts {p : Int} {n : Nat} {F T G : Nat → Int} {m : Nat} {P : Nat → Int} (h : ordB p n F T G m P = true) : (m : Int) = p ∧ graphB p n F T G = true ∧ (1 ≤ m ∧ m ≤ 24) ∧ eachB m P m = true := by
  simp [ordB, okR] at h
  exact ⟨h.2.1, h.1, ⟨h.2.2.1, h.2.2.2.1⟩, h.2.2.2.2⟩
theorem lenF_le (p : Int) (n : Nat) (F T G : Nat → Int) (m : Nat) (P : Nat → Int) : lenF p n F T G m P ≤ 1000 := by
  unfold lenF
  split
  · next h =>
    obtain ⟨h1, _, h2, _⟩ := ordB_parts h
    have hp : p.toNat ≤ 24 := by omega
    have := allS_len (B := nbA F T n) (P := P) hp p.toNat
    unfold lstF
    omega
  · omega
def slen : Value → Nat
  | .slice _ n _ => n
  | _ => 0
structure OS (base : Nat) (W0 : World) (p : Nat) (B : Nat → Nat → Bool) (bs gb g c k : Nat) (wr : World) : Prop where
  own : IOwn wr base g c k (run3 p B k).2.2
  sq : Sq wr bs p (run3 p B k).1
  gn : BHas wr gb p (run3 p B k).2.1
  bel : Below base W0 wr
theorem OS.next {base p bs gb g c k : Nat} {W0 wr w' : World} {B : Nat → Nat → Bool} (h : OS base W0 p B bs gb g c k wr) (hB : base ≤ W0.heap.size) (hb : Below wr.heap.size wr w') : OS base W0 p B bs gb g c k w' :=
  ⟨h.own.below hb h.own.lt, VHas.next h.sq hb, VHas.next h.gn hb, below_next h.bel hB hb⟩
theorem run3_sq (p : Nat) (B : Nat → Nat → Bool) (k : Nat) : (run3 p B (k + 1)).1 = tk (run3 p B k).1 (pick p (run3 p B k).1 (run3 p B k).2.1 p).1 := rfl
theorem run3_gn (p : Nat) (B : Nat → Nat → Bool) (k : Nat) : (run3 p B (k + 1)).2.1 = goneU (run3 p B k).2.1 (pick p (run3 p B k).1 (run3 p B k).2.1 p).1 := rfl
theorem run3_ls (p : Nat) (B : Nat → Nat → Bool) (k : Nat) : (run3 p B (k + 1)).2.2 = fun j => if j = k then ((pick p (run3 p B k).1 (run3 p B k).2.1 p).1 : Int) else (run3 p B k).2.2 j := rfl
def best (p : Nat) (B : Nat → Nat → Bool) (gone : Nat → Bool) (j : Nat) : Int := if noneB gone j then -1 else ((pick p B gone j).1 : Int)
def few (p : Nat) (B : Nat → Nat → Bool) (gone : Nat → Bool) (j : Nat) : Int := if noneB gone j then 0 else ((pick p B gone j).2 : Int)
theorem best_gone {p : Nat} {B : Nat → Nat → Bool} {gone : Nat → Bool} {j : Nat} (h : gone j = true) : best p B gone (j + 1) = best p B gone j ∧ few p B gone (j + 1) = few p B gone j := by
  have h1 : pick p B gone (j + 1) = pick p B gone j := by
    show (if gone j then pick p B gone j else _) = _
    rw [if_pos h]
  have h2 : noneB gone (j + 1) = noneB gone j := by simp [noneB, h]
  unfold best few
  rw [h1, h2]
  exact ⟨rfl, rfl⟩
theorem best_take {p : Nat} {B : Nat → Nat → Bool} {gone : Nat → Bool} {j : Nat} (hB : Fair B) (hj : j < p) (h : gone j = false) (hc : best p B gone j < 0 ∨ (cntB (B j) p : Int) < few p B gone j) : best p B gone (j + 1) = (j : Int) ∧ few p B gone (j + 1) = (cntB (B j) p : Int) := by
  have hlt : cntB (B j) p < (pick p B gone j).2 := by
    unfold best few at hc
    cases hn : noneB gone j
    · rw [hn] at hc
      simp at hc
      rcases hc with hc | hc
      · omega
      · exact hc
    · rw [pick_none j hn]
      exact cntB_less (i := j) hj (hB.2 j)
  have h1 : pick p B gone (j + 1) = (j, cntB (B j) p) := by
    show (if gone j then _ else if cntB (B j) p < (pick p B gone j).2 then (j, cntB (B j) p) else _) = _
    rw [if_neg (by rw [h]; simp), if_pos hlt]
  have h2 : noneB gone (j + 1) = false := by simp [noneB, h]
  unfold best few
  rw [h1, h2]
  exact ⟨rfl, rfl⟩
theorem best_stay {p : Nat} {B : Nat → Nat → Bool} {gone : Nat → Bool} {j : Nat} (h : gone j = false) (hc1 : ¬ best p B gone j < 0) (hc : ¬ (cntB (B j) p : Int) < few p B gone j) : best p B gone (j + 1) = best p B gone j ∧ few p B gone (j + 1) = few p B gone j := by
  have hn : noneB gone j = false := by
    cases hn : noneB gone j
    · rfl
    · simp [best, hn] at hc1
  unfold few at hc
  rw [hn] at hc
  simp at hc
  have h1 : pick p B gone (j + 1) = pick p B gone j := by
    show (if gone j then _ else if cntB (B j) p < (pick p B gone j).2 then (j, cntB (B j) p) else pick p B gone j) = _
    rw [if_neg (by rw [h]; simp), if_neg (by omega)]
  have h2 : noneB gone (j + 1) = false := by simp [noneB, h]
  unfold best few
  rw [h1, h2, hn]
  exact ⟨rfl, rfl⟩
theorem few_in {p : Nat} {B : Nat → Nat → Bool} {gone : Nat → Bool} (j : Nat) : 0 ≤ few p B gone j ∧ few p B gone j ≤ p := by
  unfold few
  have := pick_le (p := p) (B := B) (gone := gone) j
  split <;> omega
set_option maxHeartbeats 4000000 in
theorem l3Order_any (p : Nat) (ao : Option Addr) (n cap : Nat) (F T G : Nat → Int) (hp1 : 1 ≤ p) (hp : p ≤ 24) (hn : n ≤ 100) (hF : ∀ k, k < n → 0 ≤ F k ∧ F k < (p : Int)) (hT : ∀ k, k < n → 0 ≤ T k ∧ T k < (p : Int)) (hFT : ∀ k, k < n → F k ≠ T k) (w : World) (hr : Row w ao n F T G) :
    Calls Tryz.prog 75 #[.agg #[.int .i64 (p : Int), .slice ao n cap]] w fun e w' => ∃ g c, e = .returned (.slice (some ⟨g, 0, none⟩) p c) ∧ w.heap.size ≤ g ∧ IHas w' g p (run3 p (nbA F T n) p).2.2 ∧ Below w.heap.size w w' ∧ p ≤ c := by
  have hfair : Fair (nbA F T n) := fair_nbA n (fun k hk => by have := hF k hk; have := hT k hk; have := hFT k hk; omega)
  have hsqc := fun W hr' => l3Square_any p ao n cap F T G hp1 hp hn hF hT hFT W hr'
  generalize nbA F T n = B at hfair hsqc ⊢
  have HF : Hid (Fair B) := hfair
  have HSQ : Hid (∀ W, Row W ao n F T G → Calls Tryz.prog 85 #[.agg #[.int .i64 (p : Int), .slice ao n cap]] W fun e w' => e = .returned (.slice (some ⟨W.heap.size + 1, 0, none⟩) (p * p) (p * p)) ∧ Sq w' (W.heap.size + 1) p B ∧ Below W.heap.size W w') := hsqc
  clear hfair hsqc hF hT hFT
  go_enter Tryz.func75, Tryz.ntmps75
  go_wp2_with fail
  refine (HSQ.out _ (hr.alloc _)).mono ?_
  rintro e w1 ⟨rfl, hsq1, hb1⟩
  have hA1 := boxed hb1
  obtain ⟨x0, x1, xs⟩ := box2 hA1
  simp only [World.size_alloc] at hsq1 ⊢
  have hs1 := VHas.lt hsq1
  have hmk := make_bools p (by omega)
  go_wp2_with fail
  clear hmk
  have hO : OS (w.heap.size + 1) (w.alloc (.cells #[.int .i64 (p : Int), .slice ao n cap] 26)) p B (w.heap.size + 1 + 1) w1.heap.size (w1.heap.size + 1) 0 0 ((w1.alloc (.cells (madeCells #[.bool false] p) 4)).alloc (.cells #[] 2)) := by
    refine ⟨?_, ?_, ?_, (hA1.alloc (by omega) _).alloc (by simp; omega) _⟩
    · simpa using IOwn.empty (w1.alloc (.cells (madeCells #[.bool false] p) 4)) (base := w.heap.size + 1) (by simp; omega) _
    · exact (hsq1.alloc _).alloc _
    · exact (made_bools w1 p).alloc _
  clear hsq1 hb1 x0 x1
  go_loopw [5] (fun d wr => ∃ k g c : Nat, k ≤ p ∧ d = .slice (some ⟨g, 0, none⟩) k c ∧ OS (w.heap.size + 1) (w.alloc (.cells #[.int .i64 (p : Int), .slice ao n cap] 26)) p B (w.heap.size + 1 + 1) w1.heap.size g c k wr ∧ g ≠ (w.heap.size + 1 + 1) ∧ g ≠ w1.heap.size) (fun d _ => p - slen d)
  case atStart => exact ⟨0, _, 0, Nat.zero_le _, rfl, hO, by omega, by omega⟩
  case round =>
    clear hO
    obtain ⟨k, g, c, hk, rfl, hS, hg1, hg2⟩ := hrel
    obtain ⟨x0, x1, xs2⟩ := box2 hS.bel
    by_cases hlt : k < p
    rotate_left
    · have hkp : k = p := by omega
      subst hkp
      go_wp2
      go_ret
      exact ⟨g, c, rfl, by have := hS.own.base; omega, hS.own.has, unbox hS.bel (by omega), hS.own.room⟩
    have hlt' : (k : Int) < (p : Int) := by omega
    have hgsz := hS.own.lt
    have hgb0 := hS.own.base
    have hfk := run3_fair (p := p) HF.out k
    have hpl := run3_place HF.out hlt
    have hnn := (run3_gone HF.out k (by omega)).2 hlt
    have HK : Hid (Fair (run3 p B k).1 ∧ (pick p (run3 p B k).1 (run3 p B k).2.1 p).1 < p ∧ noneB (run3 p B k).2.1 p = false) := ⟨hfk, hpl, hnn⟩
    clear hfk hpl hnn
    go_wp2
    go_loopw [6, 7, 8] (fun x y z wr2 => ∃ j : Nat, j ≤ p ∧ x = .int .i64 (best p (run3 p B k).1 (run3 p B k).2.1 j) ∧ y = .int .i64 (few p (run3 p B k).1 (run3 p B k).2.1 j) ∧ z = .int .i64 j ∧ OS (w.heap.size + 1) (w.alloc (.cells #[.int .i64 (p : Int), .slice ao n cap] 26)) p B (w.heap.size + 1 + 1) w1.heap.size g c k wr2) (fun _ _ z _ => p - (intOf z).toNat)
    case atStart => exact ⟨0, Nat.zero_le _, rfl, rfl, rfl, hS⟩
    case round =>
      clear hS x0 x1 xs2
      obtain ⟨j, hj, rfl, rfl, rfl, hS⟩ := hrel
      obtain ⟨x0, x1, xs2⟩ := box2 hS.bel
      by_cases hltj : j < p
      · have hltj' : (j : Int) < (p : Int) := by omega
        have d0 := VHas.cell hS.gn hltj
        have hfw := few_in (p := p) (B := (run3 p B k).1) (gone := (run3 p B k).2.1) j
        cases hgj : (run3 p B k).2.1 j
        · rw [hgj] at d0
          have hcl := cntB_le ((run3 p B k).1 j) p
          have hnb := l3Neighbours_any (w.heap.size + 1 + 1) p j _ hp hltj wr hS.sq
          by_cases hc1 : best p (run3 p B k).1 (run3 p B k).2.1 j < 0
          · have hbt := best_take (p := p) HK.out.1 hltj hgj (Or.inl hc1)
            have HBT : Hid (best p (run3 p B k).1 (run3 p B k).2.1 (j + 1) = (j : Int) ∧ few p (run3 p B k).1 (run3 p B k).2.1 (j + 1) = (cntB ((run3 p B k).1 j) p : Int)) := hbt
            clear hbt
            go_wp2_with (go_at_call 87; refine hnb.mono ?_; rintro e w2 ⟨g2, c2, rfl, _, _, hb2⟩)
            go_roundw
            case rel => exact ⟨j + 1, by omega, by rw [HBT.out.1], by rw [HBT.out.2], by go_num, hS.next (by simp) hb2⟩
            case measure => simp [intOf]; omega
          · by_cases hc2 : (cntB ((run3 p B k).1 j) p : Int) < few p (run3 p B k).1 (run3 p B k).2.1 j
            · have hbt := best_take (p := p) HK.out.1 hltj hgj (Or.inr hc2)
              have HBT : Hid (best p (run3 p B k).1 (run3 p B k).2.1 (j + 1) = (j : Int) ∧ few p (run3 p B k).1 (run3 p B k).2.1 (j + 1) = (cntB ((run3 p B k).1 j) p : Int)) := hbt
              clear hbt
              go_wp2_with (go_at_call 87; refine hnb.mono ?_; rintro e w2 ⟨g2, c2, rfl, _, _, hb2⟩)
              go_roundw
              case rel => exact ⟨j + 1, by omega, by rw [HBT.out.1], by rw [HBT.out.2], by go_num, hS.next (by simp) hb2⟩
              case measure => simp [intOf]; omega
            · have hbt := best_stay (p := p) hgj hc1 hc2
              have HBT : Hid (best p (run3 p B k).1 (run3 p B k).2.1 (j + 1) = best p (run3 p B k).1 (run3 p B k).2.1 j ∧ few p (run3 p B k).1 (run3 p B k).2.1 (j + 1) = few p (run3 p B k).1 (run3 p B k).2.1 j) := hbt
              clear hbt
              go_wp2_with (go_at_call 87; refine hnb.mono ?_; rintro e w2 ⟨g2, c2, rfl, _, _, hb2⟩)
              go_roundw
              case rel => exact ⟨j + 1, by omega, by rw [HBT.out.1], by rw [HBT.out.2], by go_num, hS.next (by simp) hb2⟩
              case measure => simp [intOf]; omega
        · rw [hgj] at d0
          have hbt := best_gone (p := p) (B := (run3 p B k).1) hgj
          have HBT : Hid (best p (run3 p B k).1 (run3 p B k).2.1 (j + 1) = best p (run3 p B k).1 (run3 p B k).2.1 j ∧ few p (run3 p B k).1 (run3 p B k).2.1 (j + 1) = few p (run3 p B k).1 (run3 p B k).2.1 j) := hbt
          clear hbt
          go_wp2
          go_roundw
          case rel => exact ⟨j + 1, by omega, by rw [HBT.out.1], by rw [HBT.out.2], by go_num, hS⟩
          case measure => simp [intOf]; omega
      have hjp : j = p := by omega
      subst hjp
      obtain ⟨hfk, hpl, hnn⟩ := HK.out
      have hbe : best j (run3 j B k).1 (run3 j B k).2.1 j = ((pick j (run3 j B k).1 (run3 j B k).2.1 j).1 : Int) := by simp [best, hnn]
      rw [hbe]
      have e1 := run3_sq j B k
      have e2 := run3_gn j B k
      have e3 := run3_ls j B k
      clear hbe HK hnn
      generalize (pick j (run3 j B k).1 (run3 j B k).2.1 j).1 = a at hpl e1 e2 e3 ⊢
      have hpl' : (a : Int) < (j : Int) := by omega
      have d0 := VHas.cell hS.gn hpl
      have z0 := VHas.frozen hS.gn a
      have hsl := VHas.lt hS.sq
      have hgl := VHas.lt hS.gn
      have E1 : Hid ((run3 j B (k + 1)).1 = tk (run3 j B k).1 a) := e1
      have E2 : Hid ((run3 j B (k + 1)).2.1 = goneU (run3 j B k).2.1 a) := e2
      have E3 : Hid ((run3 j B (k + 1)).2.2 = fun i => if i = k then (a : Int) else (run3 j B k).2.2 i) := e3
      clear e1 e2 e3
      have hsg : (w.heap.size + 1 + 1) ≠ w1.heap.size := by omega
      have hg1' : gr_setCell wr w1.heap.size a (.bool true) = gr_setCell wr w1.heap.size a (.bool true) := rfl
      have G1 := BHas.put hS.gn a true
      have G2 := VHas.other (i := a) hS.sq hsg (.bool true)
      have G3 := hS.own.grown (gr_setCell wr w1.heap.size a (.bool true)) hg2
      have G4 := hS.bel.setCell (p := ⟨w1.heap.size, a, none⟩) (by simp; omega) (.bool true)
      have x0' : (wr.setCell ⟨w1.heap.size, a, none⟩ (.bool true)).cell? ⟨w.heap.size, 0, none⟩ = some (.int .i64 (j : Int)) := (box2 G4).1
      clear hg1'
      go_wp2_with fail
      refine (l3Take_any _ j a _ hp hpl hfk _ G2).mono ?_
      rintro e w3 ⟨rfl, hq3, hg3⟩
      have hs3 := hg3.size
      rw [show (wr.setCell ⟨w1.heap.size, a, none⟩ (.bool true)).heap.size = wr.heap.size by simp [World.setCell]] at hs3
      have K1 := VHas.grown G1 hg3 (by simp; omega)
      have K3 := G3.grown hg3 hg1
      have K4 := G4.trans (gr_below hg3 (by omega) (by have := G4.size; simpa using this))
      obtain ⟨y0, y1, ys⟩ := box2 K4
      have hgl3 := K3.lt
      clear G1 G2 G3 G4 hg3 x0' d0 z0 x0 x1 hS
      go_wp2_with (at_builtin; refine wpList_append_int rfl _ _ rfl (w.heap.size + 1) g c k _ rfl (by exact K3.below ((Below.refl _ _).alloc nl _) hgl3) ⟨w3.heap.size, 0, none⟩ 1 (a : Int) rfl (by simp [go_sem]) (by omega) (by simp; omega) ?_; intro g' c' w4 hown4 hgrow4 hat4)
      have hal := (Below.refl w3.heap.size w3).alloc nl (.cells #[.int .i64 (a : Int)] 2)
      have R : OS (w.heap.size + 1) (w.alloc (.cells #[.int .i64 (j : Int), .slice ao n cap] 26)) j B (w.heap.size + 1 + 1) w1.heap.size g' c' (k + 1) w4 := by
        refine ⟨?_, ?_, ?_, (K4.trans (hal.mono (by omega))).grown hgrow4 (by simp; omega) (fun q hq => by cases hq; omega)⟩
        · rw [E3.out]
          exact hown4 _ (fun q hq => if_neg (by omega)) (if_pos rfl)
        · rw [E1.out]
          exact VHas.grown (VHas.next hq3 hal) hgrow4 (by simp; omega)
        · rw [E2.out]
          exact (VHas.grown (VHas.next K1 hal) hgrow4 (by simp; omega)).congr (fun q _ => by unfold goneU; rfl)
      have hne : g' ≠ w.heap.size + 1 + 1 ∧ g' ≠ w1.heap.size := by
        rcases hat4 with e | e
        · rw [e]; exact ⟨hg1, hg2⟩
        · simp at e; omega
      clear K1 K3 K4 hq3 hown4 hgrow4 hat4 y0 y1
      go_wp2
      go_roundw
      case rel => exact ⟨k + 1, g', c', by omega, rfl, R, hne.1, hne.2⟩
      case measure => simp [slen]; omega
end
end Go.Proofs.YthmpliljffmmcaaGreatDoor
