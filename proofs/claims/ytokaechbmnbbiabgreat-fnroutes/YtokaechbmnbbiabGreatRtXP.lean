/-
  Plain: what stands of the way that Route answers: its ends, its length, no place twice, and none is shorter.
-/
import Derived.Test.YtokaechbmnbbiabGreatUnZP
import Derived.Test.YtokaechbmnbbiabGreatPack14
import Derived.Test.YtokaechbmnbbiabGreatRtEP
set_option linter.unusedVariables false
set_option linter.unusedSimpArgs false
namespace Go.Proofs.YtokaechbmnbbiabGreat

def Lk (x : Net) (k : Nat) : Nat → List (Nat × Nat × Bool) → Nat → Prop
  | a, [], b => a = b
  | a, s :: S, b => frR s.1 s.2.1 s.2.2 = a ∧ s.1 < s.2.1 ∧ s.2.1 < k ∧ x.hs s.1 s.2.1 = true ∧ x.wt s.1 s.2.1 s.2.2 < 1000000000000 ∧ Lk x k (toR s.1 s.2.1 s.2.2) S b
def Net.tw (x : Net) : List (Nat × Nat × Bool) → Int
  | [] => 0
  | s :: S => x.wt s.1 s.2.1 s.2.2 + x.tw S
theorem Net.tw_app (x : Net) : ∀ S S', x.tw (S ++ S') = x.tw S + x.tw S'
  | [], S' => by simp [Net.tw]
  | s :: S, S' => by
    simp only [List.cons_append, Net.tw, Net.tw_app x S S']
    omega
theorem lk_app {x : Net} {k : Nat} : ∀ {S S' : List (Nat × Nat × Bool)} {a c b : Nat}, Lk x k a S c → Lk x k c S' b → Lk x k a (S ++ S') b
  | [], S', a, c, b, h, h' => by
    have : a = c := h
    subst this
    exact h'
  | s :: S, S', a, c, b, h, h' => by
    obtain ⟨h1, h2, h3, h4, h5, h6⟩ := h
    exact ⟨h1, h2, h3, h4, h5, lk_app h6 h'⟩
theorem lastD_cons (l : List Nat) (b c : Nat) : (b :: l).getLastD c = l.getLastD b := by cases l <;> rfl
theorem lastD_app : ∀ (l1 : List Nat) (t : Nat) (l2 : List Nat) (a : Nat), (l1 ++ t :: l2).getLastD a = l2.getLastD t
  | [], t, l2, a => lastD_cons l2 t a
  | b :: l1, t, l2, a => by
    rw [List.cons_append, lastD_cons, lastD_app l1 t l2 b]
theorem lk_ranks {x : Net} {k : Nat} (hT : x.Tight) (hD : ∀ a b, x.hs a b = true → 0 ≤ x.D a b) (hU : ∀ a b, x.hs a b = true → 0 ≤ x.U a b) : ∀ (S : List (Nat × Nat × Bool)) (a b : Nat), Lk x k a S b → ∃ l : List Nat, (∀ r ∈ l, r < k) ∧ x.rest S = l.map x.O ∧ l.getLastD a = b ∧ x.sr a l = x.tw S
  | [], a, b, h => ⟨[], by simp, rfl, h, rfl⟩
  | s :: S, a, b, h => by
    obtain ⟨h1, h2, h3, h4, h5, h6⟩ := h
    obtain ⟨l2, i1, i2, i3, i4⟩ := lk_ranks hT hD hU S _ b h6
    obtain ⟨l1, j1, j2⟩ := x.wy_ranks s.1 s.2.1 s.2.2
    have hsum := Net.wy_sum hT hD hU s.1 s.2.1 s.2.2 h2 h4 h5
    rw [j2, h1, x.sum_ranks] at hsum
    have htk : toR s.1 s.2.1 s.2.2 < k := by unfold toR; split <;> omega
    refine ⟨l1 ++ toR s.1 s.2.1 s.2.2 :: l2, ?_, ?_, ?_, ?_⟩
    · intro r hr
      rcases List.mem_append.1 hr with q | q
      · have := j1 r q; omega
      · rcases List.mem_cons.1 q with q | q
        · rw [q]; exact htk
        · exact i1 r q
    · simp only [Net.rest, j2, i2]
      simp
    · rw [lastD_app, i3]
    · rw [x.sr_app, hsum, i4]
      rfl
section
variable {k m : Nat} {L H W : Nat → Int} {s : Nat} {D : Nat → Int}
theorem up_lk (C : Clb k m L H W s D) (x : Net) (hw : ∀ i, i < m → x.hs (L i).toNat (H i).toNat = true ∧ x.wt (L i).toNat (H i).toNat true = W i) : ∀ f q, q ≤ f → D q < 1000000000000 → Lk x k s (upS L H (chE D W L H m f q)) q ∧ x.tw (upS L H (chE D W L H m f q)) = D q
  | f, q, hf, hq => by
    by_cases e : q = s
    · subst e
      rw [chE_none C.at]
      exact ⟨rfl, C.zero.symm⟩
    · obtain ⟨i, hi⟩ := C.ex e hq
      have S := C.step hi
      have E := C.eds i S.1
      match f, hf with
      | 0, hf => omega
      | f + 1, hf =>
        rw [chE_some hi]
        have ih := up_lk C x hw f (L i).toNat (by omega) S.2.2.2.2.2.1
        have hwi := hw i S.1
        have e2 : upS L H (i :: chE D W L H m f (L i).toNat) = upS L H (chE D W L H m f (L i).toNat) ++ [rkS L H (i, true)] := by simp [upS]
        rw [e2]
        refine ⟨lk_app ih.1 ⟨rfl, ?_, ?_, hwi.1, ?_, ?_⟩, ?_⟩
        · show (L i).toNat < (H i).toNat
          omega
        · show (H i).toNat < k
          omega
        · show x.wt (L i).toNat (H i).toNat true < 1000000000000
          rw [hwi.2]; exact S.2.2.2.2.2.2.1
        · exact S.2.1
        · rw [x.tw_app, ih.2]
          show D (L i).toNat + (x.wt (L i).toNat (H i).toNat true + 0) = D q
          rw [hwi.2]
          have := S.2.2.2.2.2.2.2.1
          omega
theorem dn_lk (C : Clb k m L H W s D) (x : Net) (hw : ∀ i, i < m → x.hs (L i).toNat (H i).toNat = true ∧ x.wt (L i).toNat (H i).toNat false = W i) : ∀ f q, q ≤ f → D q < 1000000000000 → Lk x k q (dnS L H (chE D W L H m f q)) s ∧ x.tw (dnS L H (chE D W L H m f q)) = D q
  | f, q, hf, hq => by
    by_cases e : q = s
    · subst e
      rw [chE_none C.at]
      exact ⟨rfl, C.zero.symm⟩
    · obtain ⟨i, hi⟩ := C.ex e hq
      have S := C.step hi
      have E := C.eds i S.1
      match f, hf with
      | 0, hf => omega
      | f + 1, hf =>
        rw [chE_some hi]
        have ih := dn_lk C x hw f (L i).toNat (by omega) S.2.2.2.2.2.1
        have hwi := hw i S.1
        have e2 : dnS L H (i :: chE D W L H m f (L i).toNat) = rkS L H (i, false) :: dnS L H (chE D W L H m f (L i).toNat) := by simp [dnS]
        rw [e2]
        refine ⟨⟨S.2.1, ?_, ?_, hwi.1, ?_, ih.1⟩, ?_⟩
        · show (L i).toNat < (H i).toNat
          omega
        · show (H i).toNat < k
          omega
        · show x.wt (L i).toNat (H i).toNat false < 1000000000000
          rw [hwi.2]; exact S.2.2.2.2.2.2.1
        · show x.wt (L i).toNat (H i).toNat false + x.tw (dnS L H (chE D W L H m f (L i).toNat)) = D q
          rw [hwi.2, ih.2]
          have := S.2.2.2.2.2.2.2.1
          omega
end
section
variable {x : Net} {k : Nat} {E : Nat → Int}
theorem far_le (hE : ∀ a b, a < k → b < k → E b ≤ E a + x.lw (x.O a) (x.O b)) : ∀ (l : List Nat) (c : Nat), c < k → (∀ r ∈ l, r < k) → E (l.getLastD c) ≤ E c + x.sr c l
  | [], c, hc, hl => by simp [Net.sr]
  | b :: l, c, hc, hl => by
    have hb := hl b (by simp)
    have h1 := hE c b hc hb
    have h2 := far_le hE l b hb (fun r hr => hl r (by simp [hr]))
    rw [lastD_cons]
    simp only [Net.sr]
    omega
theorem far_once (hE : ∀ a b, a < k → b < k → E b ≤ E a + x.lw (x.O a) (x.O b)) (h1 : ∀ a b, 1 ≤ x.lw a b) : ∀ (l : List Nat) (c : Nat), c < k → (∀ r ∈ l, r < k) → E (l.getLastD c) = E c + x.sr c l → (∀ y ∈ l, E c < E y) ∧ (c :: l).Nodup
  | [], c, hc, hl, h => ⟨by simp, by simp⟩
  | b :: l, c, hc, hl, h => by
    have hb := hl b (by simp)
    have hl' : ∀ r ∈ l, r < k := fun r hr => hl r (by simp [hr])
    have g1 := hE c b hc hb
    have g2 := far_le hE l b hb hl'
    have g3 := h1 (x.O c) (x.O b)
    rw [lastD_cons] at h
    simp only [Net.sr] at h
    obtain ⟨i1, i2⟩ := far_once hE h1 l b hb hl' (by omega)
    have hall : ∀ y ∈ b :: l, E c < E y := fun y hy => by
      rcases List.mem_cons.1 hy with q | q
      · rw [q]; omega
      · have := i1 y q; omega
    refine ⟨hall, List.nodup_cons.2 ⟨fun hm => ?_, i2⟩⟩
    have := hall c hm
    omega
end
theorem rt_facts {p : Int} {n : Nat} {F T G : Nat → Int} {k : Nat} {P : Nat → Int} (h : ordB p n F T G k P = true) {Ds : Nat → Nat → Int} (hS : ∀ s, s < k → Sol k n F T G s (Ds s)) {ra rb top : Nat} {sm : Int} (hra : ra < k) (hrb : rb < k) (htop : top < k)
    (hmt : mt (cl (Lf (lstF p n F T P)) (Hf (lstF p n F T P)) (cusT p n F T G P).1 ra (lstF p n F T P).length) (cl (Lf (lstF p n F T P)) (Hf (lstF p n F T P)) (cusT p n F T G P).2 rb (lstF p n F T P).length) k = ((top : Int), sm)) (hsum : cl (Lf (lstF p n F T P)) (Hf (lstF p n F T P)) (cusT p n F T G P).1 ra (lstF p n F T P).length top + cl (Lf (lstF p n F T P)) (Hf (lstF p n F T P)) (cusT p n F T G P).2 rb (lstF p n F T P).length top = sm) (hsm : sm < 1000000000000) :
    ∃ l : List Nat, rtW (cn p n F T G P) (Lf (lstF p n F T P)) (Hf (lstF p n F T P)) (P ra) (rtSt (Lf (lstF p n F T P)) (Hf (lstF p n F T P)) (cusT p n F T G P).1 (cusT p n F T G P).2 (lstF p n F T P).length ra rb top) = P ra :: l.map P ∧ (∀ r ∈ l, r < k) ∧ l.getLastD ra = rb ∧ l.length ≤ 23 ∧ lenOf p n F T G (l.length + 1) (fun j => (P ra :: l.map P).getD j 0) = sm ∧ Ds (P ra).toNat (P rb).toNat = sm := by
  have D := gd_can h
  have C := cenv_of h
  obtain ⟨hkp, hg, ⟨k1, k24⟩, he⟩ := ordB_parts h
  have hT := cn_tight h
  have hun : ∀ i j, i < n → j < n → F i = F j → T i = T j → i = j := fun i j h1 h2 h3 h4 => unique (graphB_arcs hg).2 h1 h2 h3 h4
  have hw : ∀ a b, 0 ≤ lastW F T G a b n ∧ lastW F T G a b n ≤ 1000000000000 := fun a b => by
    rcases lastW_or (F := F) (T := T) (G := G) (a := a) (b := b) n with e | ⟨t, ht, _, _, e⟩
    · omega
    · have := C.gt t ht; omega
  have hw1 : ∀ a b, 1 ≤ (cn p n F T G P).lw a b := fun a b => lastW_one (F := F) (T := T) (a := a) (b := b) n C.gt
  have hDn : ∀ x y, (cn p n F T G P).hs x y = true → 0 ≤ (cn p n F T G P).D x y := fun x y hxy => (D.dn _ (fnd_at _ (hsB_iff.1 hxy)).1).1
  have hUn : ∀ x y, (cn p n F T G P).hs x y = true → 0 ≤ (cn p n F T G P).U x y := fun x y hxy => (D.up _ (fnd_at _ (hsB_iff.1 hxy)).1).1
  have hmeet := meet_is C hun hS (U := (cusT p n F T G P).1) (V := (cusT p n F T G P).2) rfl (fun _ _ => hw _ _) (fun _ _ => hw _ _) hra hrb
  rw [hmt] at hmeet
  have hP : ∀ r, r < k → 0 ≤ P r ∧ P r < (k : Int) := fun r hr => (each_in k he r hr).1
  have hE : ∀ a b, a < k → b < k → (fun r => Ds (P ra).toNat (P r).toNat) b ≤ (fun r => Ds (P ra).toNat (P r).toNat) a + (cn p n F T G P).lw ((cn p n F T G P).O a) ((cn p n F T G P).O b) := fun a b ha hb => by
    have pa := hP a ha
    have pb := hP b hb
    have pr := hP ra hra
    have hs0 := hS (P ra).toNat (by omega)
    show Ds (P ra).toNat (P b).toNat ≤ Ds (P ra).toNat (P a).toNat + lastW F T G (P a) (P b) n
    rcases lastW_or (F := F) (T := T) (G := G) (a := P a) (b := P b) n with e | ⟨t, ht, e1, e2, e3⟩
    · have h1 := hs0.hi (P b).toNat (by omega)
      have h2 := hs0.lo (P a).toNat (by omega)
      omega
    · have h1 := hs0.fix t ht
      rw [e1, e2] at h1
      omega
  have hfnd : ∀ i, i < (lstF p n F T P).length → (cn p n F T G P).hs (Lf (lstF p n F T P) i).toNat (Hf (lstF p n F T P) i).toNat = true ∧ fnd (Lf (lstF p n F T P)) (Hf (lstF p n F T P)) (((Lf (lstF p n F T P) i).toNat : Nat) : Int) (((Hf (lstF p n F T P) i).toNat : Nat) : Int) (lstF p n F T P).length = i := fun i hi => by
    have hed := D.ed i hi
    have e1 : (((Lf (lstF p n F T P) i).toNat : Nat) : Int) = Lf (lstF p n F T P) i := by omega
    have e2 : (((Hf (lstF p n F T P) i).toNat : Nat) : Int) = Hf (lstF p n F T P) i := by omega
    have hh : Hs (lstF p n F T P).length (Lf (lstF p n F T P)) (Hf (lstF p n F T P)) (Lf (lstF p n F T P) i) (Hf (lstF p n F T P) i) := ⟨i, hi, rfl, rfl⟩
    rw [e1, e2]
    refine ⟨?_, ?_⟩
    · show hsB _ _ _ (((Lf (lstF p n F T P) i).toNat : Nat) : Int) (((Hf (lstF p n F T P) i).toNat : Nat) : Int) = true
      rw [e1, e2]
      exact hsB_iff.2 hh
    · have hat := fnd_at _ hh
      exact C.once hat.1 hi hat.2.1 hat.2.2
  have CU := clb_cl (s := ra) C.ed C.ei (W := (cusT p n F T G P).1) D.up
  have CV := clb_cl (s := rb) C.ed C.ei (W := (cusT p n F T G P).2) D.dn
  have iu := CU.inn top
  have iv := CV.inn top
  have hu := up_lk CU (cn p n F T G P) (fun i hi => ⟨(hfnd i hi).1, by show (cusT p n F T G P).1 (fnd _ _ _ _ _) = _; rw [(hfnd i hi).2]⟩) top top (Nat.le_refl _) (by omega)
  have hd := dn_lk CV (cn p n F T G P) (fun i hi => ⟨(hfnd i hi).1, by show (cusT p n F T G P).2 (fnd _ _ _ _ _) = _; rw [(hfnd i hi).2]⟩) top top (Nat.le_refl _) (by omega)
  have hlk := lk_app hu.1 hd.1
  obtain ⟨l, l1, l2, l3, l4⟩ := lk_ranks hT hDn hUn _ _ _ hlk
  rw [Net.tw_app, hu.2, hd.2, hsum] at l4
  have hone := far_once (x := cn p n F T G P) (E := fun r => Ds (P ra).toNat (P r).toNat) hE hw1 l ra hra l1 (by
    show Ds (P ra).toNat (P (l.getLastD ra)).toNat = Ds (P ra).toNat (P ra).toNat + _
    have pr := hP ra hra
    rw [l3, l4, ← hmeet, (hS (P ra).toNat (by omega)).zero]
    simp)
  have hlen := nodup_len k (ra :: l) hone.2 (fun r hr => by
    rcases List.mem_cons.1 hr with q | q
    · rw [q]; exact hra
    · exact l1 r q)
  simp only [List.length_cons] at hlen
  have hsm2 : (cn p n F T G P).sum (P ra) (l.map P) = sm := by
    have := (cn p n F T G P).sum_ranks l ra
    rw [l4] at this
    exact this
  refine ⟨l, ?_, l1, l3, by omega, ?_, hmeet.symm⟩
  · unfold rtW
    rw [rtSt_rev, l2]
    rfl
  · unfold lenOf
    rw [if_pos ⟨hg, by omega, by omega, allIn_of _ (fun i hi => by
      have : ∃ r, r < k ∧ (P ra :: l.map P).getD i 0 = P r := by
        have e : (P ra :: l.map P) = (ra :: l).map P := rfl
        have hi' : i < (ra :: l).length := by simpa using hi
        refine ⟨(ra :: l)[i], ?_, ?_⟩
        · rcases List.mem_cons.1 (List.getElem_mem hi') with q | q
          · rw [q]; exact hra
          · exact l1 _ q
        · rw [e, List.getD_eq_getElem?_getD, List.getElem?_map, List.getElem?_eq_getElem hi']
          rfl
      obtain ⟨r, hr, e2⟩ := this
      have h1 := hP r hr
      simp only [e2]
      simp [inB]
      omega)⟩]
    have hps := ps_sum (x := cn p n F T G P) (n := n) (F := F) (T := T) (G := G) (fun _ _ => rfl) (fun x y => by have := hw1 x y; omega) (l := l.map P) (a := P ra) (by rw [hsm2]; exact hsm) (l.map P).length (Nat.le_refl _)
    rw [List.take_length, hsm2, List.length_map] at hps
    rw [Nat.add_sub_cancel]
    exact hps

end Go.Proofs.YtokaechbmnbbiabGreat
