/-
  Helpers: MtgD, Cus, FillM, CusP, EdMap, CusE, OwnI, OwnL, CusC, CusB, Room.
-/
import Derived.Test.YthmpliljffmmcaaGreatDoorPack1
import Derived.Test.YthmpliljffmmcaaGreatDoorPack19
import Derived.Test.YthmpliljffmmcaaGreatDoorPack7
import Derived.Test.YthmpliljffmmcaaGreatDoorPack2
import Derived.Test.YthmpliljffmmcaaGreatDoorPack3
import Derived.Test.YthmpliljffmmcaaGreatDoorPack18
import Derived.Test.YthmpliljffmmcaaGreatDoorPack14
import Derived.Test.YthmpliljffmmcaaGreatDoorPack5
import Derived.Maps.Own
import Derived.Maps.OwnOps
import Derived.Maps.OwnSet
import Derived.Maps.Views
import Derived.DeepKeys4
import Derived.Test.YthmpliljffmmcaaGreatDoorPack4
import Derived.Test.YthmpliljffmmcaaGreatDoorPack13
import Derived.Test.YthmpliljffmmcaaGreatDoorPack15
import Derived.Deep.RegionLaw
import Derived.Deep.RegionHeld3
import Derived.Laws.CopyOwn
import Derived.Laws.Rows
set_option linter.unusedVariables false
set_option linter.unusedSimpArgs false
namespace Go.Proofs.YthmpliljffmmcaaGreatDoor
section
open Go.RowKit Go.Deep Go.Joins
attribute [local go_sem ↓] Go.wp_at_zero Go.wp_at_succ
set_option maxHeartbeats 2000000 in
theorem implDistance_any (po : Option Addr) (k pcap : Nat) (P : Nat → Int) (eo : Option Addr) (m ecap : Nat) (L H : Nat → Int) (uo : Option Addr) (u ucap : Nat) (U : Nat → Int) (vo : Option Addr) (v vcap : Nat) (V : Nat → Int) (a b : Int) (hk : k ≤ 1048576) (hm : m ≤ 1048576) (hu : u ≤ 1048576) (hv : v ≤ 1048576) (w : World) (hP : IRow w po k P) (he : ERow w eo m L H) (hU : IRow w uo u U) (hV : IRow w vo v V) :
    Calls Tryz.prog 137 #[.agg #[.slice po k pcap, .slice eo m ecap], .agg #[.slice uo u ucap, .slice vo v vcap], .int .i64 a, .int .i64 b] w fun e w' => e = .returned (.int .i64 (dst k P m L H u U v V a b)) ∧ Below w.heap.size w w' := by
  generalize hD : dst k P m L H u U v V a b = dd
  have hB0 := ((Below.refl w.heap.size w).alloc nl (.cells #[.slice po k pcap, .slice eo m ecap] 30)).alloc (by simp) (.cells #[.slice uo u ucap, .slice vo v vcap] 179)
  have q0 : ((w.alloc (.cells #[.slice po k pcap, .slice eo m ecap] 30)).alloc (.cells #[.slice uo u ucap, .slice vo v vcap] 179)).cell? ⟨w.heap.size, 0, none⟩ = some (.slice po k pcap) := by simp [go_sem]
  have q1 : ((w.alloc (.cells #[.slice po k pcap, .slice eo m ecap] 30)).alloc (.cells #[.slice uo u ucap, .slice vo v vcap] 179)).cell? ⟨w.heap.size, 1, none⟩ = some (.slice eo m ecap) := by simp [go_sem]
  have q2 : ((w.alloc (.cells #[.slice po k pcap, .slice eo m ecap] 30)).alloc (.cells #[.slice uo u ucap, .slice vo v vcap] 179)).cell? ⟨w.heap.size + 1, 0, none⟩ = some (.slice uo u ucap) := by simp [go_sem]
  have q3 : ((w.alloc (.cells #[.slice po k pcap, .slice eo m ecap] 30)).alloc (.cells #[.slice uo u ucap, .slice vo v vcap] 179)).cell? ⟨w.heap.size + 1, 1, none⟩ = some (.slice vo v vcap) := by simp [go_sem]
  go_enter Tryz.func137, Tryz.ntmps137
  go_wp2_with fail
  refine (implRanks_any po k pcap P hk _ (hP.below hB0 nl)).mono ?_
  rintro e w1 ⟨ao, cap, rfl, hA, hb1⟩
  replace q0 := keep_cell hb1 nl q0
  replace q1 := keep_cell hb1 nl q1
  replace q2 := keep_cell hb1 nl q2
  replace q3 := keep_cell hb1 nl q3
  have hB1 := below_next hB0 nl hb1
  clear hb1 hB0
  by_cases hok : okR k P = true ∧ RIn k a ∧ RIn k b
  rotate_left
  · obtain rfl : dd = 1000000000000 := by rw [← hD]; exact dst_no (fun h => hok h.2)
    clear hD
    have hbad : inB a 0 ((lenR k P : Int) - 1) = false ∨ inB b 0 ((lenR k P : Int) - 1) = false := by
      unfold lenR
      by_cases h0 : okR k P = true
      · rw [if_pos h0]
        simp only [h0, true_and, RIn] at hok
        by_cases ha : inB a 0 ((k : Int) - 1) = true
        · right
          by_cases hb : inB b 0 ((k : Int) - 1) = true
          · exfalso
            simp [inB] at ha hb
            omega
          · simpa using hb
        · left
          simpa using ha
      · rw [if_neg h0]
        left
        simp [inB]
        omega
    have hl24 := lenR_le k P
    generalize lenR k P = n at hA hbad hl24 ⊢
    clear hA hok
    go_wp2_with fail
    refine (placeOk_any a (n : Int) _).mono ?_
    rcases hbad with h1 | h1
    · rw [h1]
      rintro e w2 ⟨rfl, hw2⟩
      have hw2' := hw2.symm
      subst hw2'
      clear hw2
      go_wp2
      go_ret
      exact ⟨rfl, hB1⟩
    · rintro e w2 ⟨rfl, hw2⟩
      have hw2' := hw2.symm
      subst hw2'
      clear hw2
      cases h2 : inB a 0 ((n : Int) - 1)
      · go_wp2
        go_ret
        exact ⟨rfl, hB1⟩
      · go_wp2_with fail
        refine (placeOk_any b (n : Int) _).mono ?_
        rw [h1]
        rintro e w2 ⟨rfl, hw2⟩
        have hw2' := hw2.symm
        subst hw2'
        clear hw2
        go_wp2
        go_ret
        exact ⟨rfl, hB1⟩
  obtain ⟨h0, ⟨ha0, ha1⟩, ⟨hb0, hb1⟩⟩ := hok
  have hL : lenR k P = k := by unfold lenR; rw [if_pos h0]
  have hk2 : 1 ≤ k ∧ k ≤ 24 := by simp [okR] at h0; omega
  obtain ⟨an, rfl⟩ : ∃ an : Nat, a = (an : Int) := ⟨a.toNat, by omega⟩
  obtain ⟨bn, rfl⟩ : ∃ bn : Nat, b = (bn : Int) := ⟨b.toNat, by omega⟩
  rw [dst_yes h0 ⟨by omega, by omega⟩ ⟨by omega, by omega⟩, Int.toNat_natCast, Int.toNat_natCast] at hD
  have la : an < k := by omega
  have lb : bn < k := by omega
  rw [hL] at hA ⊢
  obtain ⟨g, rfl, hg, hI⟩ := hA (by omega)
  have r0 := hI.cell la
  have r1 := hI.cell lb
  clear hI hA
  generalize rk P (-1) k an = ra at r0 hD
  generalize rk P (-1) k bn = rb at r1 hD
  generalize hM : mtg k m L H u U v V ra rb = M at hD
  subst hD
  have h1 : inB (an : Int) 0 ((k : Int) - 1) = true := by simp [inB]; omega
  have h2 : inB (bn : Int) 0 ((k : Int) - 1) = true := by simp [inB]; omega
  have lia : (an : Int) < (k : Int) := by omega
  have lib : (bn : Int) < (k : Int) := by omega
  go_wp2_with fail
  refine (placeOk_any (an : Int) (k : Int) _).mono ?_
  rw [h1]
  rintro e w2 ⟨rfl, hw2⟩
  have hw2' := hw2.symm
  subst hw2'
  clear hw2
  go_wp2_with fail
  refine (placeOk_any (bn : Int) (k : Int) _).mono ?_
  rw [h2]
  rintro e w2 ⟨rfl, hw2⟩
  have hw2' := hw2.symm
  subst hw2'
  clear hw2
  go_wp2_with fail
  have hbd := (Below.refl w1.heap.size w1).drew
  replace q0 := keep_cell hbd nl q0
  replace q1 := keep_cell hbd nl q1
  replace q2 := keep_cell hbd nl q2
  replace q3 := keep_cell hbd nl q3
  replace r0 := keep_cell hbd nl r0
  replace r1 := keep_cell hbd nl r1
  replace hB1 := below_next hB1 nl hbd
  clear hbd
  go_region_held3 (fun w' => w'.cell? ⟨w.heap.size, 0, none⟩ = some (.slice po k pcap) ∧ w'.cell? ⟨w.heap.size, 1, none⟩ = some (.slice eo m ecap) ∧ w'.cell? ⟨w.heap.size + 1, 0, none⟩ = some (.slice uo u ucap) ∧ w'.cell? ⟨w.heap.size + 1, 1, none⟩ = some (.slice vo v vcap) ∧ w'.cell? ⟨g, an, none⟩ = some (.int .i64 ra) ∧ w'.cell? ⟨g, bn, none⟩ = some (.int .i64 rb))
    (first | (go_split_ands; refine ⟨?_, ?_, ?_, ?_, ?_, ?_⟩ <;> exact keep_cell hb5 nl (by assumption)) | go_keep)
    (first | (go_at_call 141; refine (meet_any po k pcap eo m ecap L H uo u ucap U vo v vcap V ra rb hk hm hu hv _ (he.below hB1 nl) (hU.below hB1 nl) (hV.below hB1 nl)).mono ?_; rw [hM]; rintro e w5 ⟨rfl, hb5⟩))
  go_wp2
  go_ret
  exact ⟨rfl, below_next hB1 nl hb5⟩
end
section
def stU (s : (Nat → Int) × (Nat → Int)) (t : Tr) : Nat → Int := fun j => if j = t.2.2 then min (s.1 t.2.2) (upT s.1 s.2 t) else s.1 j
def stT (s : (Nat → Int) × (Nat → Int)) (t : Tr) : (Nat → Int) × (Nat → Int) := (stU s t, fun j => if j = t.2.2 then min (s.2 t.2.2) (dnT (stU s t) s.2 t) else s.2 j)
def runT (s : (Nat → Int) × (Nat → Int)) (l : List Tr) : (Nat → Int) × (Nat → Int) := l.foldl stT s
theorem runT_snoc (s : (Nat → Int) × (Nat → Int)) (l : List Tr) (t : Tr) : runT s (l ++ [t]) = stT (runT s l) t := by simp [runT]
theorem stU_in {m : Nat} {L H : Nat → Int} {s : (Nat → Int) × (Nat → Int)} {t : Tr} (ht : TOk m L H t) (h1 : InF m s.1) (h2 : InF m s.2) : InF m (stU s t) := fun j hj => by
  have a := h1 j hj
  have b := h1 t.2.2 ht.2.2.1
  have c := h1 t.2.1 ht.2.1
  have d := h2 t.1 (by have := ht.1; have := ht.2.1; omega)
  unfold stU upT
  split <;> omega
theorem stT_in {m : Nat} {L H : Nat → Int} {s : (Nat → Int) × (Nat → Int)} {t : Tr} (ht : TOk m L H t) (h1 : InF m s.1) (h2 : InF m s.2) : InF m (stT s t).1 ∧ InF m (stT s t).2 := by
  have hu := stU_in ht h1 h2
  refine ⟨hu, fun j hj => ?_⟩
  have a := h2 j hj
  have b := h2 t.2.2 ht.2.2.1
  have c := h2 t.2.1 ht.2.1
  have d := hu t.1 (by have := ht.1; have := ht.2.1; omega)
  unfold stT dnT
  simp only
  split <;> omega
theorem runT_in {m : Nat} {L H : Nat → Int} {s : (Nat → Int) × (Nat → Int)} (h1 : InF m s.1) (h2 : InF m s.2) : ∀ l : List Tr, (∀ t ∈ l, TOk m L H t) → InF m (runT s l).1 ∧ InF m (runT s l).2 := by
  intro l
  induction l generalizing s with
  | nil => intro _; exact ⟨h1, h2⟩
  | cons t l ih =>
    intro h
    have ht := stT_in (h t (by simp)) h1 h2
    exact ih ht.1 ht.2 (fun x hx => h x (by simp [hx]))
theorem tk_keeps {B : Nat → Nat → Bool} {a x y : Nat} (hx : x ≠ a) (hy : y ≠ a) (h : B x y = true) : tk B a x y = true := by
  unfold tk
  rw [if_neg (by omega), h]; rfl
theorem tk_joins {B : Nat → Nat → Bool} {a x y : Nat} (hx : x ≠ a) (hy : y ≠ a) (hxy : x ≠ y) (h1 : B a x = true) (h2 : B a y = true) : tk B a x y = true := by
  unfold tk
  rw [if_neg (by omega), h1, h2]
  have : (x != y) = true := by simpa using hxy
  rw [this]; simp
theorem place_ne {p : Nat} {P : Nat → Int} (he : eachB p P p = true) {i j : Nat} (hi : i < p) (hj : j < p) (h : i ≠ j) : (P i).toNat ≠ (P j).toNat := fun e => by
  have h1 := (each_in p he i hi).1
  have h2 := (each_in p he j hj).1
  exact h (each_inj he hi hj (by omega))
theorem sqO_stays {B : Nat → Nat → Bool} {P : Nat → Int} {p : Nat} (he : eachB p P p = true) {x y t : Nat} (hx : x < p) (hy : y < p) (h : sqO B P t (P x).toNat (P y).toNat = true) : ∀ s, t ≤ s → s ≤ x → s ≤ y → sqO B P s (P x).toNat (P y).toNat = true := fun s hs h1 h2 => by
  induction s with
  | zero =>
    have : t = 0 := by omega
    subst this; exact h
  | succ s ih =>
    by_cases e : t = s + 1
    · subst e; exact h
    · have := ih (by omega) (by omega) (by omega)
      exact tk_keeps (place_ne he hx (by omega) (by omega)) (place_ne he hy (by omega) (by omega)) this
theorem fill_chord {B : Nat → Nat → Bool} {P : Nat → Int} {p : Nat} (he : eachB p P p = true) {r u v : Nat} (hr : r < u) (huv : u < v) (hv : v < p) (h1 : sqO B P r (P r).toNat (P u).toNat = true) (h2 : sqO B P r (P r).toNat (P v).toNat = true) : sqO B P u (P u).toNat (P v).toNat = true := by
  have h3 : sqO B P (r + 1) (P u).toNat (P v).toNat = true := tk_joins (place_ne he (by omega) (by omega) (by omega)) (place_ne he hv (by omega) (by omega)) (place_ne he (by omega) hv (by omega)) h1 h2
  exact sqO_stays he (by omega) hv h3 u (by omega) nl (by omega)
theorem nbA_has {F T : Nat → Int} : ∀ n i, i < n → nbA F T n (F i).toNat (T i).toNat = true
  | 0, i, hi => by omega
  | n + 1, i, hi => by
    show upd2 (nbA F T n) (F n).toNat (T n).toNat true (F i).toNat (T i).toNat = true
    rw [upd2_at]
    by_cases e : i = n
    · subst e; rw [if_pos (Or.inl ⟨rfl, rfl⟩)]
    · split
      · rfl
      · exact nbA_has n i (by omega)
theorem getD_at {l : List (Int × Int)} {k : Nat} (hk : k < l.length) : l.getD k (0, 0) = l[k] := by simp [List.getD, hk]
theorem hs_mem {l : List (Int × Int)} {a b : Int} : Hs l.length (Lf l) (Hf l) a b ↔ (a, b) ∈ l := by
  constructor
  · rintro ⟨i, hi, h1, h2⟩
    unfold Lf at h1
    unfold Hf at h2
    rw [getD_at hi] at h1 h2
    have : l[i] = (a, b) := Prod.ext h1 h2
    rw [← this]
    exact List.getElem_mem hi
  · intro h
    obtain ⟨i, hi, e⟩ := List.mem_iff_getElem.1 h
    refine ⟨i, hi, ?_, ?_⟩
    · unfold Lf; rw [getD_at hi, e]
    · unfold Hf; rw [getD_at hi, e]
theorem ed_of_list {p : Int} {l : List (Int × Int)} (h1 : ∀ x ∈ l, edgeB x.1 x.2 p = true) (h2 : l.Pairwise lt2) : ∀ k, k ≤ l.length → edB p (Lf l) (Hf l) k = true
  | 0, _ => rfl
  | k + 1, hk => by
    have hk' : k < l.length := by omega
    refine edB_step (ed_of_list h1 h2 k (by omega)) ?_ ?_
    · unfold Lf Hf
      rw [getD_at hk']
      exact h1 _ (List.getElem_mem hk')
    · by_cases e : k = 0
      · exact Or.inl e
      · right
        have hk2 : k - 1 < l.length := by omega
        unfold Lf Hf
        rw [getD_at hk', getD_at hk2]
        exact List.pairwise_iff_getElem.1 h2 (k - 1) k hk2 hk' (by omega)
theorem fill_ok {B : Nat → Nat → Bool} {P : Nat → Int} {p : Nat} (hp1 : 1 ≤ p) (hp : p ≤ 24) (he : eachB p P p = true) :
    Chd (p : Int) (allS B P p p).length (Lf (allS B P p p)) (Hf (allS B P p p)) := by
  have hall : ∀ x ∈ allS B P p p, ∃ r h : Nat, r < h ∧ h < p ∧ sqO B P r (P r).toNat (P h).toNat = true ∧ x = ((r : Int), (h : Int)) := fun x hx => by
    obtain ⟨r, h, _, h2, h3, h4, h5⟩ := (mem_allS x p).1 hx
    exact ⟨r, h, h3, h2, h4, h5⟩
  have hsrt := srt_allS (B := B) (P := P) (p := p) p
  have hin : ∀ r h : Nat, r < h → h < p → sqO B P r (P r).toNat (P h).toNat = true → ((r : Int), (h : Int)) ∈ allS B P p p := fun r h h1 h2 h3 => (mem_allS _ p).2 ⟨r, h, by omega, h2, h1, h3, rfl⟩
  generalize allS B P p p = l at hall hsrt hin ⊢
  refine ⟨?_, ?_⟩
  · unfold edgesB
    rw [ed_of_list (fun x hx => ?_) hsrt l.length nl]
    · simp [inB]; omega
    · obtain ⟨r, h, h1, h2, _, rfl⟩ := hall x hx
      simp [edgeB, inB]; omega
  · intro i hi k hik hk hL
    rw [hs_mem]
    have e1 : Lf l k = Lf l i := hL k hik nl
    have hlt := List.pairwise_iff_getElem.1 hsrt i k hi hk hik
    obtain ⟨r, u, a1, a2, a3, a4⟩ := hall _ (List.getElem_mem hi)
    obtain ⟨r', v, b1, b2, b3, b4⟩ := hall _ (List.getElem_mem hk)
    unfold Lf Hf at *
    rw [getD_at hi, getD_at hk] at *
    rw [a4, b4] at hlt
    rw [a4, b4] at e1 ⊢
    have e1' : r' = r := by
      have : ((r' : Nat) : Int) = (r : Int) := e1
      omega
    subst e1'
    rw [lt2_iff] at hlt
    simp at hlt
    exact hin u v (by omega) b2 (fill_chord he a1 (by omega) b2 a3 b3)
theorem fill_arc {F T : Nat → Int} {n : Nat} {P : Nat → Int} {p : Nat} (he : eachB p P p = true) (hB : Fair (nbA F T n)) {i : Nat} (hi : i < n) (hF : 0 ≤ F i ∧ F i < (p : Int)) (hT : 0 ≤ T i ∧ T i < (p : Int)) (hne : F i ≠ T i) {x y : Nat} (hx : x < p) (hy : y < p) (ex : P x = F i) (ey : P y = T i) : (min (x : Int) y, max (x : Int) y) ∈ allS (nbA F T n) P p p := by
  have h0 := nbA_has n i hi (F := F) (T := T)
  have hxy : x ≠ y := fun e => by subst e; omega
  rw [← ex, ← ey] at h0
  by_cases hl : x < y
  · have e1 : min (x : Int) y = x := by omega
    have e2 : max (x : Int) y = y := by omega
    rw [e1, e2]
    exact (mem_allS _ p).2 ⟨x, y, hx, hy, hl, sqO_stays (B := nbA F T n) (t := 0) he hx hy h0 x (Nat.zero_le _) nl (by omega), rfl⟩
  · have e1 : min (x : Int) y = y := by omega
    have e2 : max (x : Int) y = x := by omega
    rw [e1, e2]
    rw [hB.1] at h0
    exact (mem_allS _ p).2 ⟨y, x, hy, hx, by omega, sqO_stays (B := nbA F T n) (t := 0) he hy hx h0 y (Nat.zero_le _) nl (by omega), rfl⟩
def w0U (n : Nat) (F T G P L H : Nat → Int) (j : Nat) : Int := lastW F T G (P (L j).toNat) (P (H j).toNat) n
def w0D (n : Nat) (F T G P L H : Nat → Int) (j : Nat) : Int := lastW F T G (P (H j).toNat) (P (L j).toNat) n
def lastZ (F T G : Nat → Int) (a b : Int) : Nat → Int
  | 0 => 0
  | t + 1 => if F t = a ∧ T t = b then G t else lastZ F T G a b t
theorem lastZ_in {F T G : Nat → Int} {a b : Int} : ∀ n, (∀ t, t < n → 1 ≤ G t ∧ G t ≤ 1000000) → 0 ≤ lastZ F T G a b n ∧ lastZ F T G a b n ≤ 1000000
  | 0, _ => by unfold lastZ; omega
  | n + 1, h => by
    have h1 := h n (by omega)
    have h2 := lastZ_in (F := F) (T := T) (a := a) (b := b) n (fun t ht => h t (by omega))
    unfold lastZ
    split <;> omega
theorem lastZ_far {F T G : Nat → Int} {a b : Int} : ∀ n, (∀ t, t < n → 1 ≤ G t ∧ G t ≤ 1000000) → (if lastZ F T G a b n = 0 then 1000000000000 else lastZ F T G a b n) = lastW F T G a b n
  | 0, _ => by unfold lastZ lastW; simp
  | n + 1, h => by
    have h1 := h n (by omega)
    have h2 := lastZ_far (F := F) (T := T) (a := a) (b := b) n (fun t ht => h t (by omega))
    unfold lastZ lastW
    by_cases e : F n = a ∧ T n = b
    · rw [if_pos e, if_pos e, if_neg (by omega)]
    · rw [if_neg e, if_neg e]
      exact h2
def wzU (F T G P L H : Nat → Int) (t j : Nat) : Int := lastZ F T G (P (L j).toNat) (P (H j).toNat) t
def wzD (F T G P L H : Nat → Int) (t j : Nat) : Int := lastZ F T G (P (H j).toNat) (P (L j).toNat) t
structure CEnv (k n m : Nat) (F T G P L H : Nat → Int) : Prop where
  k1 : 1 ≤ k
  k24 : k ≤ 24
  n100 : n ≤ 100
  m1000 : m ≤ 1000
  each : eachB k P k = true
  chd : Chd (k : Int) m L H
  ed : edB (k : Int) L H m = true
  ei : ∀ j, j < m → 0 ≤ L j ∧ L j < H j ∧ H j < (k : Int)
  inj : ∀ i j, i < k → j < k → P i = P j → i = j
  gt : ∀ t, t < n → 1 ≤ G t ∧ G t ≤ 1000000
  arc : ∀ t, t < n → ∃ x y e : Nat, x < k ∧ y < k ∧ e < m ∧ (P x = F t ∧ 0 ≤ F t ∧ F t < (k : Int)) ∧ (P y = T t ∧ 0 ≤ T t ∧ T t < (k : Int)) ∧ (rk P (-1) k (F t).toNat = (x : Int) ∧ rk P (-1) k (T t).toNat = (y : Int)) ∧ ((x < y ∧ L e = (x : Int) ∧ H e = (y : Int)) ∨ (y < x ∧ L e = (y : Int) ∧ H e = (x : Int)))
section
variable {k n m : Nat} {F T G P L H : Nat → Int}
theorem CEnv.once (h : CEnv k n m F T G P L H) {i j : Nat} (hi : i < m) (hj : j < m) (h1 : L i = L j) (h2 : H i = H j) : i = j := ed_once h.ed hi hj h1 h2
theorem CEnv.up (h : CEnv k n m F T G P L H) {t x y e : Nat} (hx : x < k) (hy : y < k) (he : e < m) (ex : P x = F t) (ey : P y = T t) (hxy : x < y) (hL : L e = (x : Int)) (hH : H e = (y : Int)) :
    (∀ j, j < m → (if j = e then G t else wzU F T G P L H t j) = wzU F T G P L H (t + 1) j) ∧ ∀ j, j < m → wzD F T G P L H (t + 1) j = wzD F T G P L H t j := by
  refine ⟨fun j hj => ?_, fun j hj => ?_⟩
  · have hj' := h.ei j hj
    unfold wzU
    show _ = (if _ then _ else _)
    by_cases e1 : j = e
    · subst e1
      rw [if_pos rfl, if_pos ⟨by rw [← ex, hL]; simp, by rw [← ey, hH]; simp⟩]
    · rw [if_neg e1, if_neg]
      rintro ⟨q1, q2⟩
      have a1 := h.inj x (L j).toNat hx (by omega) (by rw [ex, q1])
      have a2 := h.inj y (H j).toNat hy (by omega) (by rw [ey, q2])
      exact e1 (h.once hj he (by omega) (by omega))
  · have hj' := h.ei j hj
    unfold wzD
    show (if _ then _ else _) = _
    rw [if_neg]
    rintro ⟨q1, q2⟩
    have a1 := h.inj x (H j).toNat hx (by omega) (by rw [ex, q1])
    have a2 := h.inj y (L j).toNat hy (by omega) (by rw [ey, q2])
    omega
theorem CEnv.dn (h : CEnv k n m F T G P L H) {t x y e : Nat} (hx : x < k) (hy : y < k) (he : e < m) (ex : P x = F t) (ey : P y = T t) (hxy : y < x) (hL : L e = (y : Int)) (hH : H e = (x : Int)) :
    (∀ j, j < m → (if j = e then G t else wzD F T G P L H t j) = wzD F T G P L H (t + 1) j) ∧ ∀ j, j < m → wzU F T G P L H (t + 1) j = wzU F T G P L H t j := by
  refine ⟨fun j hj => ?_, fun j hj => ?_⟩
  · have hj' := h.ei j hj
    unfold wzD
    show _ = (if _ then _ else _)
    by_cases e1 : j = e
    · subst e1
      rw [if_pos rfl, if_pos ⟨by rw [← ex, hH]; simp, by rw [← ey, hL]; simp⟩]
    · rw [if_neg e1, if_neg]
      rintro ⟨q1, q2⟩
      have a1 := h.inj x (H j).toNat hx (by omega) (by rw [ex, q1])
      have a2 := h.inj y (L j).toNat hy (by omega) (by rw [ey, q2])
      exact e1 (h.once hj he (by omega) (by omega))
  · have hj' := h.ei j hj
    unfold wzU
    show (if _ then _ else _) = _
    rw [if_neg]
    rintro ⟨q1, q2⟩
    have a1 := h.inj x (L j).toNat hx (by omega) (by rw [ex, q1])
    have a2 := h.inj y (H j).toNat hy (by omega) (by rw [ey, q2])
    omega
theorem CEnv.farU (h : CEnv k n m F T G P L H) (j : Nat) : (if wzU F T G P L H n j = 0 then 1000000000000 else wzU F T G P L H n j) = w0U n F T G P L H j := lastZ_far n h.gt
theorem CEnv.farD (h : CEnv k n m F T G P L H) (j : Nat) : (if wzD F T G P L H n j = 0 then 1000000000000 else wzD F T G P L H n j) = w0D n F T G P L H j := lastZ_far n h.gt
end
end
section
open Go.ChangeShapes Go.WideShapes Go.ChangeAt Go.RowKit Go.Maps
set_option maxRecDepth 100000 in
theorem Tryz.rowEdge : (94 : TypeId) < Tryz.prog.types.size := of_decide_eq_true (by kernel_rfl)
theorem Tryz.wideEdge : (match Tryz.prog.underlying 94 with | some (.array _ _) | some (.struct _) => true | _ => false) = true := by rw [Tryz.underlying94]
set_option maxRecDepth 100000 in
theorem Tryz.keyLawE : Keyed Tryz.prog 94 := Keyed.of_law (deep_law_laid Tryz.laidOut (m := 2) (by omega) Tryz.rowEdge (by kernel_rfl) Tryz.wideEdge)
theorem Tryz.keyTypeE : Tryz.prog.keyType 94 = true := by kernel_rfl
theorem Tryz.cellsEdge : Tryz.prog.cellsOf 94 = 2 := by kernel_rfl
theorem Tryz.mapZeroE (w : World) : (zeroValue 3).run Tryz.prog w = .ok (.int .i64 0) w := by kernel_rfl
set_option maxRecDepth 100000 in
theorem Tryz.someTypesE : ∃ m, Tryz.prog.types.size = m + 1 := ⟨_, (Nat.succ_pred_eq_of_pos (Nat.lt_of_le_of_lt (Nat.zero_le _) Tryz.rowEdge)).symm⟩
def ekl (f t : Int) : Lit := .string (keyBytes [.int .i64 f, .int .i64 t])
set_option maxRecDepth 100000 in
theorem key_edge (f t : Int) (hf : (Lit.int .i64 f).wf = true) (ht : (Lit.int .i64 t).wf = true) : keyOf Tryz.prog 94 (.agg #[.int .i64 f, .int .i64 t]) = some (ekl f t) := by
  exact key_two Tryz.underlying94 Tryz.keyTypeE Tryz.cellsEdge Tryz.underlying2 Tryz.underlying2 rfl rfl Tryz.cellsInt Tryz.cellsInt (by decide) (by decide) Tryz.someTypesE hf ht
theorem ekl_inj {f t f' t' : Int} (hf : (Lit.int .i64 f).wf = true) (ht : (Lit.int .i64 t).wf = true) (hf' : (Lit.int .i64 f').wf = true) (ht' : (Lit.int .i64 t').wf = true) (h : ekl f t = ekl f' t') : f = f' ∧ t = t' := by
  have := Tryz.keyLawE.inj (key_edge f t hf ht) (by rw [h]; exact key_edge f' t' hf' ht')
  simpa using this
theorem ekl_key (f t : Int) : WideAt.IsKeyLit (ekl f t) := trivial
def enums (F T : Nat → Int) : Nat → DataW Unit
  | 0 => .map []
  | k + 1 => (enums F T k).put (ekl (F k) (T k)) (.lit (.int .i64 (k : Int)))
theorem enums_isMap (F T : Nat → Int) : ∀ k, IsMap (enums F T k)
  | 0 => isMap_empty
  | k + 1 => (enums_isMap F T k).put _ _
def EWf (F T : Nat → Int) (n : Nat) : Prop := ∀ k, k < n → (Lit.int .i64 (F k)).wf = true ∧ (Lit.int .i64 (T k)).wf = true
theorem enums_look (F T : Nat → Int) (a b : Int) (ha : (Lit.int .i64 a).wf = true) (hb : (Lit.int .i64 b).wf = true) : ∀ n, EWf F T n →
    (Maps.has (enums F T n) (ekl a b) = false ∧ ∀ k, k < n → ¬ (F k = a ∧ T k = b)) ∨
    ∃ k, k < n ∧ F k = a ∧ T k = b ∧ Maps.has (enums F T n) (ekl a b) = true ∧ (enums F T n).atKey (ekl a b) (.lit (.int .i64 0)) = .lit (.int .i64 (k : Int))
  | 0, _ => Or.inl ⟨rfl, fun k hk => by omega⟩
  | n + 1, hw => by
    by_cases h : F n = a ∧ T n = b
    · obtain ⟨rfl, rfl⟩ := h
      exact Or.inr ⟨n, by omega, rfl, rfl, has_put_same (enums_isMap F T n) (ekl_key _ _) _, atKey_put_same (enums_isMap F T n) (ekl_key _ _) _ _⟩
    · have hne : ekl a b ≠ ekl (F n) (T n) := fun e => by
        have := ekl_inj ha hb (hw n (by omega)).1 (hw n (by omega)).2 e
        exact h ⟨this.1.symm, this.2.symm⟩
      rcases enums_look F T a b ha hb n (fun k hk => hw k (by omega)) with ⟨h1, h2⟩ | ⟨k, hk, h1, h2, h3, h4⟩
      · exact Or.inl ⟨by rw [enums, has_put_other hne]; exact h1, fun k hk => by
          by_cases e : k = n
          · subst e; exact h
          · exact h2 k (by omega)⟩
      · exact Or.inr ⟨k, by omega, h1, h2, by rw [enums, has_put_other hne]; exact h3, by rw [enums, atKey_put_other hne]; exact h4⟩
theorem make_emap (n : Nat) (w : World) : (Instr.makeMap 188 (some (.int .i64 (n : Int)))).run Tryz.prog w = .ok (.map (some w.heap.size)) (w.alloc (.map #[] 0)) := by
  simp [Instr.makeMap, run_underlying Tryz.underlying188, asInt, asIntOf, newObj]
  rfl
set_option maxHeartbeats 1000000 in
theorem edgeNumbers_any (ao : Option Addr) (n cap : Nat) (L H : Nat → Int) (hn : n ≤ 1048576) (hwf : EWf L H n) (w : World) (hr : ERow w ao n L H) :
    Calls Tryz.prog 142 #[.slice ao n cap] w fun e w' => e = .returned (.map (some w.heap.size)) ∧ w'.ownsMap Tryz.prog 94 (plainElem Tryz.prog 3) w.heap.size n (enums L H n) ∧ Below w.heap.size w w' := by
  have hmk := make_emap n
  go_enter Tryz.func142, Tryz.ntmps142
  go_wp2
  clear hmk
  go_loopw [11] (fun i wr => ∃ k : Nat, k ≤ n ∧ i = .int .i64 k ∧ wr.ownsMap Tryz.prog 94 (plainElem Tryz.prog 3) w.heap.size k (enums L H k) ∧ Below w.heap.size w wr) (fun i _ => n - (intOf i).toNat)
  case atStart => exact ⟨0, Nat.zero_le _, rfl, by simpa [enums] using World.ownsMap_made w Tryz.prog 94 (plainElem (H := Unit) Tryz.prog 3), (Below.refl _ _).alloc (by simp) _⟩
  case round =>
    obtain ⟨k, hk, rfl, hown, hbel⟩ := hrel
    have hlt0 : w.heap.size < wr.heap.size := hown.lt
    by_cases hlt : k < n
    rotate_left
    · have hkn : k = n := by omega
      subst hkn
      go_wp2
      go_ret
      exact ⟨rfl, hown, hbel⟩
    obtain ⟨b, o, hao, c0, c1⟩ := (hr.below hbel nl) k hlt
    subst hao
    have hkey := key_edge (L k) (H k) (hwf k hlt).1 (hwf k hlt).2
    have hown1 := hown.alloc (.cells #[.int .i64 (L k), .int .i64 (H k)] 94)
    have hbel1 := hbel.alloc (o := .cells #[.int .i64 (L k), .int .i64 (H k)] 94) hbel.size
    go_wp2_with (at_mapUpdate; refine wpList_mapUpdate_own _ rfl _ _ _ 188 rfl 94 3 Tryz.keyLawE Tryz.underlying188 _ w.heap.size k _ rfl hown1 (by unfold maxLen; omega) _ _ _ rfl rfl hkey _ [] (plainElem_int Tryz.underlying3 (WalkArith.wf_i64 (by omega))) ?_; intro w2 hown2 hgrow2)
    go_wp2
    go_roundw
    case rel => exact ⟨k + 1, by omega, by go_num, hown2, hbel1.grown hgrow2 (by simp; omega) (fun j hj => by cases hj; exact Nat.le_refl _)⟩
    case measure => simp [intOf]; omega
end
section
open Go.RowKit Go.Maps
theorem cenv_of {p : Int} {n : Nat} {F T G : Nat → Int} {k : Nat} {P : Nat → Int} (h : ordB p n F T G k P = true) :
    CEnv k n (lstF p n F T P).length F T G P (Lf (lstF p n F T P)) (Hf (lstF p n F T P)) := by
  obtain ⟨hkp, hg, ⟨k1, k24⟩, he⟩ := ordB_parts h
  subst hkp
  obtain ⟨_, hn, hF, hT, hFT⟩ := ok_arcs hg
  have hl : lstF (k : Int) n F T P = allS (nbA F T n) P k k := by simp [lstF]
  have hlen : (lstF (k : Int) n F T P).length ≤ 1000 := by
    have := lenF_le (k : Int) n F T G k P
    unfold lenF at this
    rw [if_pos h] at this
    exact this
  rw [hl] at hlen ⊢
  have hch := fill_ok (B := nbA F T n) (P := P) k1 k24 he
  have hed : edB (k : Int) (Lf (allS (nbA F T n) P k k)) (Hf (allS (nbA F T n) P k k)) (allS (nbA F T n) P k k).length = true := by
    have := hch.1
    simp [edgesB] at this
    exact this.2
  have hinj : ∀ i j, i < k → j < k → P i = P j → i = j := fun i j hi hj e => by
    by_cases hij : i = j
    · exact hij
    · exact absurd (by rw [e]) (place_ne he hi hj hij)
  refine ⟨k1, k24, hn, hlen, he, hch, hed, fun j hj => edgeB_in (edB_at _ hed j hj), hinj, fun t ht => ?_, fun t ht => ?_⟩
  · have := (arcsB_each n (graphB_arcs hg).2 t ht).1
    simp [arcB, inB] at this
    omega
  · obtain ⟨f0, f1⟩ := hF t ht
    obtain ⟨t0, t1⟩ := hT t ht
    obtain ⟨x, hx, ex, rx⟩ := rk_of he (-1) (q := (F t).toNat) (by omega)
    obtain ⟨y, hy, ey, ry⟩ := rk_of he (-1) (q := (T t).toNat) (by omega)
    have ex' : P x = F t := by rw [ex]; omega
    have ey' : P y = T t := by rw [ey]; omega
    have hxy : x ≠ y := fun e => hFT t ht (by rw [← ex', ← ey', e])
    have hmem := fill_arc he (fair_nbA n (fun q hq => by have a1 := hF q hq; have a2 := hT q hq; have a3 := hFT q hq; omega)) ht ⟨f0, f1⟩ ⟨t0, t1⟩ (hFT t ht) hx hy ex' ey'
    obtain ⟨e, hel, hee⟩ := List.getElem_of_mem hmem
    have hL : Lf (allS (nbA F T n) P k k) e = min (x : Int) y := by
      unfold Lf; rw [getD_at hel, hee]
    have hH : Hf (allS (nbA F T n) P k k) e = max (x : Int) y := by
      unfold Hf; rw [getD_at hel, hee]
    refine ⟨x, y, e, hx, hy, hel, ⟨ex', f0, f1⟩, ⟨ey', t0, t1⟩, ⟨rx, ry⟩, ?_⟩
    rw [hL, hH]
    by_cases hlt : x < y
    · left; omega
    · right; omega
def cusT (p : Int) (n : Nat) (F T G P : Nat → Int) : (Nat → Int) × (Nat → Int) :=
  runT (w0U n F T G P (Lf (lstF p n F T P)) (Hf (lstF p n F T P)), w0D n F T G P (Lf (lstF p n F T P)) (Hf (lstF p n F T P))) (allT (lstF p n F T P).length (Lf (lstF p n F T P)) (Hf (lstF p n F T P)) (lstF p n F T P).length)
open Classical in
noncomputable def lenM (p : Int) (n : Nat) (F T G : Nat → Int) (k : Nat) (P : Nat → Int) (m : Nat) (L H : Nat → Int) : Nat := if HOk p n F T G k P m L H then m else 0
theorem lenM_yes {p : Int} {n : Nat} {F T G : Nat → Int} {k : Nat} {P : Nat → Int} {m : Nat} {L H : Nat → Int} (h : HOk p n F T G k P m L H) : lenM p n F T G k P m L H = m := by unfold lenM; rw [if_pos h]
theorem lenM_no {p : Int} {n : Nat} {F T G : Nat → Int} {k : Nat} {P : Nat → Int} {m : Nat} {L H : Nat → Int} (h : ¬ HOk p n F T G k P m L H) : lenM p n F T G k P m L H = 0 := by unfold lenM; rw [if_neg h]
theorem hok_len {p : Int} {n : Nat} {F T G : Nat → Int} {k : Nat} {P : Nat → Int} {m : Nat} {L H : Nat → Int} (h : HOk p n F T G k P m L H) : m = (lstF p n F T P).length ∧ (∀ i, i < m → L i = Lf (lstF p n F T P) i ∧ H i = Hf (lstF p n F T P) i) := by
  obtain ⟨h1, h2, h3⟩ := h
  unfold lenF at h2
  rw [if_pos h1] at h2
  exact ⟨h2, h3⟩
theorem CEnv.wf {k n m : Nat} {F T G P L H : Nat → Int} (h : CEnv k n m F T G P L H) : EWf L H m := fun j hj => by
  have := h.ei j hj
  have := h.k24
  exact ⟨WalkArith.wf_i64 (by omega), WalkArith.wf_i64 (by omega)⟩
end
section
open Go.RowKit

def me2 (a b : Value) (j : Nat) : Value := if j = 0 then a else b
section
variable {w : World} {c0 c1 c2 c3 : Value} {go : Option Addr} {j gc : Nat} {U : Nat → Int} {ho : Option Addr} {j' hc : Nat} {V : Nat → Int} {W W' : World}
theorem cell_far {W W' : World} {b o B : Nat} {v : Value} {row : Option Nat} (h : W.cell? ⟨b, o, none⟩ = some v) (hg : W.grownBy W' row) (hr : ∀ x, row = some x → B ≤ x) (hb : b < B) : W'.cell? ⟨b, o, none⟩ = some v := by
  have hl := lt_of_cell h
  have := hg.block b hl (fun e => by have := hr b e.symm; omega)
  simpa [World.cell?, this] using h
theorem below_far {w W W' : World} {B : Nat} {row : Option Nat} (h : Below w.heap.size w W) (hg : W.grownBy W' row) (hr : ∀ x, row = some x → B ≤ x) (hb : w.heap.size ≤ B) : Below w.heap.size w W' :=
  ⟨hg.os.trans h.os, hg.tape.trans h.tape, hg.output.trans h.output, Nat.le_trans h.size hg.size, fun k hk => (hg.block k (Nat.lt_of_lt_of_le hk h.size) (fun e => by have := hr k e.symm; omega)).trans (h.block k hk)⟩
theorem VHas.far {W W' : World} {b n B : Nat} {t : TypeId} {f : Nat → Value} {row : Option Nat} (h : VHas W b t n f) (hg : W.grownBy W' row) (hr : ∀ x, row = some x → B ≤ x) (hb : b < B) : VHas W' b t n f := h.grown hg (fun e => by have := hr b e.symm; omega)
end
def MAns (w w' : World) (e : Ending) (m : Nat) (U D : Nat → Int) : Prop := ∃ ao cap eo ecap, e = .returned (.agg #[.slice ao m cap, .slice eo m ecap]) ∧ (0 < m → ∃ b c, ao = some ⟨b, 0, none⟩ ∧ eo = some ⟨c, 0, none⟩ ∧ w.heap.size ≤ b ∧ w.heap.size ≤ c ∧ b ≠ c ∧ IHas w' b m U ∧ IHas w' c m D) ∧ w.heap.size + 2 ≤ w'.heap.size ∧ Below w.heap.size w w'
theorem me2_new (w : World) (a b : Value) : VHas (w.alloc (.cells #[a, b] 179)) w.heap.size 179 2 (me2 a b) :=
  ⟨_, Go.Deep.blk_alloc_new _ _, by simp, fun j hj => by
    have : j = 0 ∨ j = 1 := by omega
    rcases this with rfl | rfl <;> rfl⟩
end
section
open Go.RowKit Go.Deep Go.Joins
attribute [local go_sem ↓] Go.wp_at_zero Go.wp_at_succ
section
variable {w : World} {c2 c3 s1 s2 : Value} {m bU bV : Nat} {s : (Nat → Int) × (Nat → Int)} {W W' : World}
end
end
section
open Go.RowKit Go.Deep Go.Joins Go.Maps
attribute [local go_sem ↓] Go.wp_at_zero Go.wp_at_succ
structure B3 (w : World) (c0 c1 c2 c3 : Value) (W : World) : Prop where
  bel : Below w.heap.size w W
  g0 : W.cell? ⟨w.heap.size, 0, none⟩ = some c0
  g1 : W.cell? ⟨w.heap.size, 1, none⟩ = some c1
  h0 : W.cell? ⟨w.heap.size + 1, 0, none⟩ = some c2
  h1 : W.cell? ⟨w.heap.size + 1, 1, none⟩ = some c3
  res : VHas W (w.heap.size + 2) 179 2 (me2 (.slice none 0 0) (.slice none 0 0))
theorem B3.next {w : World} {c0 c1 c2 c3 : Value} {W W' : World} (h : B3 w c0 c1 c2 c3 W) (hb : Below W.heap.size W W') : B3 w c0 c1 c2 c3 W' :=
  ⟨below_next h.bel nl hb, keep_cell hb nl h.g0, keep_cell hb nl h.g1, keep_cell hb nl h.h0, keep_cell hb nl h.h1, h.res.next hb⟩
theorem b3_new (w : World) (c0 c1 c2 c3 : Value) : B3 w c0 c1 c2 c3 (((w.alloc (.cells #[c0, c1] 26)).alloc (.cells #[c2, c3] 30)).alloc (.cells #[.slice none 0 0, .slice none 0 0] 179)) := by
  refine ⟨(((Below.refl _ w).alloc nl _).alloc (by simp) _).alloc (by simp; omega) _, by simp [go_sem], by simp [go_sem], by simp [go_sem], by simp [go_sem], ?_⟩
  have := me2_new ((w.alloc (.cells #[c0, c1] 26)).alloc (.cells #[c2, c3] 30)) (.slice none 0 0) (.slice none 0 0)
  simpa using this
theorem alloc_b (X : World) (o : Obj) : Below X.heap.size X (X.alloc o) := (Below.refl _ _).alloc nl o
theorem hid_alloc {w X : World} (h : Hid (Below w.heap.size w X)) (o : Obj) : Hid (Below w.heap.size w (X.alloc o)) := h.out.alloc h.out.size o
theorem hid_next {w X Y : World} (h : Hid (Below w.heap.size w X)) (hb : Below X.heap.size X Y) : Hid (Below w.heap.size w Y) := below_next h.out nl hb
theorem IHas.al {X : World} {b n : Nat} {f : Nat → Int} (h : IHas X b n f) (o : Obj) : IHas (X.alloc o) b n f := h.below (alloc_b X o) h.lt
theorem IHas.nx {X Y : World} {b n : Nat} {f : Nat → Int} (h : IHas X b n f) (hb : Below X.heap.size X Y) : IHas Y b n f := h.below hb h.lt
theorem made_at (A : World) (b m : Nat) (h : b = A.heap.size) : IHas (A.alloc (.cells (madeCells #[.int .i64 0] m) 2)) b m (fun _ => 0) := by
  subst h; exact made_ints A m
abbrev OMap (W : World) (b m : Nat) (L H : Nat → Int) : Prop := W.ownsMap Tryz.prog 94 (plainElem (H := Unit) Tryz.prog 3) b m (enums L H m)
theorem omap_nx {X Y : World} {b m : Nat} {L H : Nat → Int} (h : OMap X b m L H) (hb : Below X.heap.size X Y) : OMap Y b m L H := ownsMap_block h (hb.block b (World.ownsMap.lt h))
theorem omap_al {X : World} {b m : Nat} {L H : Nat → Int} (h : OMap X b m L H) (o : Obj) : OMap (X.alloc o) b m L H := omap_nx h (alloc_b X o)
def rmc (eo : Option Addr) (m ecap g k rcap bm bU bV : Nat) : Array Value := #[.slice eo m ecap, .slice (some ⟨g, 0, none⟩) k rcap, .map (some bm), .slice (some ⟨bU, 0, none⟩) m m, .slice (some ⟨bV, 0, none⟩) m m]
structure Room (w : World) (k : Nat) (P : Nat → Int) (eo : Option Addr) (m ecap : Nat) (L H : Nat → Int) (b g rcap bm bU bV : Nat) (U V : Nat → Int) (W : World) : Prop where
  bel : Below w.heap.size w W
  box : W.heap[b]? = some (.cells (rmc eo m ecap g k rcap bm bU bV) 191 (0, 0))
  rks : IHas W g k (rk P (-1) k)
  nos : OMap W bm m L H
  up : IHas W bU m U
  dn : IHas W bV m V
  ge : w.heap.size ≤ b ∧ w.heap.size ≤ g ∧ w.heap.size ≤ bm ∧ w.heap.size ≤ bU ∧ w.heap.size ≤ bV
  ne : bU ≠ bV ∧ g ≠ bU ∧ g ≠ bV ∧ b ≠ bU ∧ b ≠ bV ∧ bm ≠ bU ∧ bm ≠ bV
section
variable {w : World} {k : Nat} {P : Nat → Int} {eo : Option Addr} {m ecap : Nat} {L H : Nat → Int} {b g rcap bm bU bV : Nat} {U V : Nat → Int} {W W' : World}
theorem Room.next (h : Room w k P eo m ecap L H b g rcap bm bU bV U V W) (hb : Below W.heap.size W W') : Room w k P eo m ecap L H b g rcap bm bU bV U V W' :=
  ⟨below_next h.bel nl hb, (hb.block b (Array.getElem?_eq_some_iff.1 h.box).1).trans h.box, h.rks.nx hb, omap_nx h.nos hb, h.up.nx hb, h.dn.nx hb, h.ge, h.ne⟩
theorem Room.cell (h : Room w k P eo m ecap L H b g rcap bm bU bV U V W) {j : Nat} {v : Value} (hv : (rmc eo m ecap g k rcap bm bU bV)[j]? = some v) : W.cell? ⟨b, j, none⟩ = some v := by
  rw [cell_of_row W b j _ _ _ h.box]; exact hv
theorem Room.turnU (h : Room w k P eo m ecap L H b g rcap bm bU bV U V W) {U' : Nat → Int} (hg : W.grownBy W' (some bU)) (hU : IHas W' bU m U') : Room w k P eo m ecap L H b g rcap bm bU bV U' V W' := by
  obtain ⟨n1, n2, n3, n4, n5, n6, n7⟩ := h.ne
  exact ⟨below_far (B := w.heap.size) h.bel hg (fun x e => by cases e; exact h.ge.2.2.2.1) nl, (hg.block b (Array.getElem?_eq_some_iff.1 h.box).1 (by simp; exact n4)).trans h.box, h.rks.grown hg (by simp; exact n2), World.ownsMap.kept h.nos hg (by simp; exact n6), hU, h.dn.grown hg (by simp; exact fun e => n1 e.symm), h.ge, h.ne⟩
theorem Room.turnD (h : Room w k P eo m ecap L H b g rcap bm bU bV U V W) {V' : Nat → Int} (hg : W.grownBy W' (some bV)) (hV : IHas W' bV m V') : Room w k P eo m ecap L H b g rcap bm bU bV U V' W' := by
  obtain ⟨n1, n2, n3, n4, n5, n6, n7⟩ := h.ne
  exact ⟨below_far (B := w.heap.size) h.bel hg (fun x e => by cases e; exact h.ge.2.2.2.2) nl, (hg.block b (Array.getElem?_eq_some_iff.1 h.box).1 (by simp; exact n5)).trans h.box, h.rks.grown hg (by simp; exact n3), World.ownsMap.kept h.nos hg (by simp; exact n7), h.up.grown hg (by simp; exact n1), hV, h.ge, h.ne⟩
theorem Room.congr (h : Room w k P eo m ecap L H b g rcap bm bU bV U V W) {U' V' : Nat → Int} (h1 : ∀ j, j < m → U j = U' j) (h2 : ∀ j, j < m → V j = V' j) : Room w k P eo m ecap L H b g rcap bm bU bV U' V' W :=
  ⟨h.bel, h.box, h.rks, h.nos, h.up.congr h1, h.dn.congr h2, h.ge, h.ne⟩
end
theorem box_at (X : World) (b : Nat) (c : Array Value) (h : b = X.heap.size) : (X.alloc (.cells c 191)).heap[b]? = some (.cells c 191 (0, 0)) := by
  subst h; exact heap_alloc_new X _
set_option maxRecDepth 100000 in
set_option maxHeartbeats 8000000 in
theorem newWorkroom_any (po : Option Addr) (k pcap : Nat) (P : Nat → Int) (eo : Option Addr) (m ecap : Nat) (L H : Nat → Int) (hk : k ≤ 1048576) (hm : m ≤ 1048576) (hok : okR k P = true) (hwf : EWf L H m) (w : World) (hp : IRow w po k P) (he : ERow w eo m L H) :
    Calls Tryz.prog 138 #[.agg #[.slice po k pcap, .slice eo m ecap]] w fun e w' => ∃ b g rcap bm bU bV, e = .returned (.pointer (some ⟨b, 0, none⟩)) ∧ Room w k P eo m ecap L H b g rcap bm bU bV (fun _ => 0) (fun _ => 0) w' := by
  have hmk := make_ints m hm
  have hL : lenR k P = k := by unfold lenR; rw [if_pos hok]
  have hk0 : 0 < k := by simp [okR] at hok; omega
  have HRK := fun ao' W hr' => implRanks_any ao' k pcap P hk W hr'
  rw [hL] at HRK
  have HRK' : Hid (∀ ao' W, IRow W ao' k P → Calls Tryz.prog 78 #[.slice ao' k pcap] W fun e w' => Ans W w' e k (rk P (-1) k)) := HRK
  clear HRK hL hok
  go_enter Tryz.func138, Tryz.ntmps138
  go_wp2_with fail
  have hB0 : Hid (Below w.heap.size w (w.alloc (.cells #[.slice po k pcap, .slice eo m ecap] 30)).drew) := ((Below.refl _ _).alloc nl _).drew
  have y0 : (w.alloc (.cells #[.slice po k pcap, .slice eo m ecap] 30)).drew.cell? ⟨w.heap.size, 0, none⟩ = some (.slice po k pcap) := by simp [go_sem]
  have y1 : (w.alloc (.cells #[.slice po k pcap, .slice eo m ecap] 30)).drew.cell? ⟨w.heap.size, 1, none⟩ = some (.slice eo m ecap) := by simp [go_sem]
  go_region_held3 (fun w' => w'.cell? ⟨w.heap.size, 0, none⟩ = some (.slice po k pcap) ∧ w'.cell? ⟨w.heap.size, 1, none⟩ = some (.slice eo m ecap) ∧ Hid (Below w.heap.size w w'))
    (first | (go_split_ands; exact ⟨keep_cell hbN nl (by assumption), keep_cell hbN nl (by assumption), hid_next (by assumption) hbN⟩) | (go_split_ands; exact ⟨keep_cell hbR nl (by assumption), keep_cell hbR nl (by assumption), hid_next (by assumption) hbR⟩) | (go_split_ands; exact ⟨keep_cell (alloc_b _ _) nl (by assumption), keep_cell (alloc_b _ _) nl (by assumption), hid_alloc (by assumption) _⟩) | (refine ⟨?_, ?_, ?_⟩ <;> assumption))
    (first | (go_at_call 78; go_split_ands; refine (HRK'.out po _ (hp.below (Hid.out (by assumption)) nl)).mono ?_; rintro e wR ⟨aoR, capR, rfl, hR, hbR⟩; obtain ⟨gR, rfl, hgR, iR⟩ := hR hk0; have hgl := iR.lt; clear hR) | (go_at_call 142; go_split_ands; refine (edgeNumbers_any eo m ecap L H hm hwf _ (he.below (Hid.out (by assumption)) nl)).mono ?_; rintro e wN ⟨rfl, hN, hbN⟩))
  all_goals
    go_split_ands
    go_wp2
    go_ret
    have hsR := hbR.size
    have hsN := hbN.size
    have hnl := World.ownsMap.lt hN
    simp only [World.size_alloc, World.size_drew] at hsR hsN hgR hnl hN
    refine ⟨_, gR, capR, _, _, _, rfl, ⟨Hid.out (by assumption), box_at _ _ _ (by simp), ?_, ?_, ?_, ?_, ?_, ?_⟩⟩
    · repeat (first | exact iR | refine IHas.al ?_ _ | refine IHas.nx ?_ hbN)
    · repeat (first | exact hN | refine omap_al ?_ _)
    · repeat (first | (refine made_at _ _ _ ?_; simp; done) | (refine made_at _ _ _ ?_; rfl) | refine IHas.al ?_ _ | refine IHas.nx ?_ hbN | refine IHas.nx ?_ hbR)
    · repeat (first | (refine made_at _ _ _ ?_; simp; done) | (refine made_at _ _ _ ?_; rfl) | refine IHas.al ?_ _ | refine IHas.nx ?_ hbN | refine IHas.nx ?_ hbR)
    · (try simp only [World.size_alloc, World.size_drew]); omega
    · (try simp only [World.size_alloc, World.size_drew]); omega
end
end Go.Proofs.YthmpliljffmmcaaGreatDoor
