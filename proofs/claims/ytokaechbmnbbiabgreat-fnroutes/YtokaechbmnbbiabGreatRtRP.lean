/-
  What stands while the document's Route puts the ways of its steps together; plainly: its plan.
-/
import Derived.Test.YtokaechbmnbbiabGreatRtEP
import Derived.Test.YtokaechbmnbbiabGreatUnBP
set_option linter.unusedVariables false
set_option linter.unusedSimpArgs false
namespace Go.Proofs.YtokaechbmnbbiabGreat
open Go.RowKit Go.Deep

section
variable {k m : Nat} {L H W : Nat → Int} {s : Nat} {D : Nat → Int}
theorem up_pair (C : Clb k m L H W s D) (hE : ∀ i, i < m → 0 ≤ L i ∧ L i < H i ∧ H i < (k : Int)) (S2 : List (Nat × Nat × Bool)) {q j : Nat} (h : j < (chE D W L H m q q).length) :
    ∃ lo hi : Nat, (chR D W L H m q)[j]? = some (lo : Int) ∧ (chR D W L H m q)[j + 1]? = some (hi : Int) ∧ hsB m L H lo hi = true ∧ lo < hi ∧ hi < k ∧ (upS L H (chE D W L H m q q) ++ S2)[j]? = some (lo, hi, true) := by
  obtain ⟨h1, h2, h3⟩ := chR_pair C (q := q) (i := j + 1) (by omega) (by omega)
  have h4 := hE _ h3
  have h5 := upS_at L H (chE D W L H m q q) (i := j + 1) (by omega) (by omega)
  simp only [Nat.add_sub_cancel] at h1 h5
  refine ⟨_, _, h1, h2, hsB_iff.2 ⟨_, h3, by omega, by omega⟩, by omega, by omega, ?_⟩
  rw [List.getElem?_append_left (by simpa [upS] using h), h5]
  rfl
theorem dn_pair (C : Clb k m L H W s D) (hE : ∀ i, i < m → 0 ≤ L i ∧ L i < H i ∧ H i < (k : Int)) (S1 : List (Nat × Nat × Bool)) {q j : Nat} (h : j < (chE D W L H m q q).length) :
    ∃ lo hi : Nat, (chR D W L H m q)[j]? = some (lo : Int) ∧ (chR D W L H m q)[j + 1]? = some (hi : Int) ∧ hsB m L H lo hi = true ∧ lo < hi ∧ hi < k ∧ (S1 ++ dnS L H (chE D W L H m q q))[S1.length + ((chE D W L H m q q).length - (j + 1))]? = some (lo, hi, false) := by
  obtain ⟨h1, h2, h3⟩ := chR_pair C (q := q) (i := j + 1) (by omega) (by omega)
  have h4 := hE _ h3
  have h5 := dnS_at L H (chE D W L H m q q) (i := (chE D W L H m q q).length - (j + 1)) (by omega)
  simp only [Nat.add_sub_cancel] at h1
  refine ⟨_, _, h1, h2, hsB_iff.2 ⟨_, h3, by omega, by omega⟩, by omega, by omega, ?_⟩
  rw [List.getElem?_append_right (by omega), Nat.add_sub_cancel_left, h5]
  rfl
end
theorem rest_le (x : Net) (l : List (Nat × Nat × Bool)) (j : Nat) : (x.rest (l.take j)).length ≤ (x.rest l).length := by
  have := rest_app x (l.take j) (l.drop j)
  rw [List.take_append_drop] at this
  rw [this, List.length_append]
  omega
structure Plan (k m : Nat) (L H : Nat → Int) (x : Net) (S : List (Nat × Nat × Bool)) (XU XV : List Int) (NU NV : Nat) : Prop where
  lu : XU.length = NU + 1
  lv : XV.length = NV + 1
  bu : NU ≤ 24
  bv : NV ≤ 24
  len : ∀ j, (x.rest (S.take j)).length ≤ 400000000
  all : S.length = NU + NV
  up : ∀ j, j < NU → ∃ lo hi : Nat, XU[j]? = some (lo : Int) ∧ XU[j + 1]? = some (hi : Int) ∧ hsB m L H lo hi = true ∧ lo < hi ∧ hi < k ∧ S[j]? = some (lo, hi, true)
  dn : ∀ j, j < NV → ∃ lo hi : Nat, XV[j]? = some (lo : Int) ∧ XV[j + 1]? = some (hi : Int) ∧ hsB m L H lo hi = true ∧ lo < hi ∧ hi < k ∧ S[NU + (NV - (j + 1))]? = some (lo, hi, false)
theorem rt_plan {k m : Nat} {L H U V : Nat → Int} {ra rb top : Nat} (CU : Clb k m L H U ra (cl L H U ra m)) (CV : Clb k m L H V rb (cl L H V rb m)) (hE : ∀ i, i < m → 0 ≤ L i ∧ L i < H i ∧ H i < (k : Int)) (htop : top < 24) (x : Net) (a : Int) :
    ∃ (S : List (Nat × Nat × Bool)) (XU XV : List Int) (NU NV : Nat), chR (cl L H U ra m) U L H m top = XU ∧ chR (cl L H V rb m) V L H m top = XV ∧ rtW x L H a (rtSt L H U V m ra rb top) = a :: x.rest S ∧ Plan k m L H x S XU XV NU NV := by
  refine ⟨upS L H (chE (cl L H U ra m) U L H m top top) ++ dnS L H (chE (cl L H V rb m) V L H m top top), _, _, (chE (cl L H U ra m) U L H m top top).length, (chE (cl L H V rb m) V L H m top top).length, rfl, rfl, ?_, ?_⟩
  · unfold rtW
    rw [rtSt_rev]
  · have h1 := chE_len CU top top
    have h2 := chE_len CV top top
    have h3 := rtW_len x CU CV hE (top := top) htop
    rw [rtSt_rev] at h3
    refine ⟨chR_len .., chR_len .., by omega, by omega, fun j => Nat.le_trans (rest_le x _ j) h3, by simp [upS, dnS], fun j hj => up_pair CU hE _ hj, fun j hj => ?_⟩
    have := dn_pair CV hE (upS L H (chE (cl L H U ra m) U L H m top top)) hj
    have e : (upS L H (chE (cl L H U ra m) U L H m top top)).length = (chE (cl L H U ra m) U L H m top top).length := by simp [upS]
    rw [e] at this
    exact this

structure RtK (w w5 wr : World) (p : Int) (ao : Option Addr) (n cap : Nat) (po : Option Addr) (k pcap : Nat) (eo : Option Addr) (m ecap : Nat) (uo : Option Addr) (ucap : Nat) (vo : Option Addr) (vcap : Nat) (g c : Nat) (l : List Int) (gx cx : Nat) (X : List Int) : Prop where
  box : U6 w wr p ao n cap po k pcap eo m ecap uo m ucap vo m vcap
  old : Below w5.heap.size w5 wr
  own : LOwn wr w5.heap.size (some ⟨g, 0, none⟩) c l
  chn : LOwn wr w5.heap.size (some ⟨gx, 0, none⟩) cx X
  ne : gx ≠ g
  up : w.heap.size + 3 ≤ w5.heap.size
section
variable {w w5 wr w' : World} {p : Int} {ao : Option Addr} {n cap : Nat} {po : Option Addr} {k pcap : Nat} {eo : Option Addr} {m ecap : Nat} {uo : Option Addr} {ucap : Nat} {vo : Option Addr} {vcap : Nat} {g c : Nat} {l : List Int} {gx cx : Nat} {X : List Int}
theorem RtK.next (h : RtK w w5 wr p ao n cap po k pcap eo m ecap uo ucap vo vcap g c l gx cx X) (hb : Below wr.heap.size wr w') : RtK w w5 w' p ao n cap po k pcap eo m ecap uo ucap vo vcap g c l gx cx X :=
  ⟨h.box.next hb, below_next h.old (Nat.le_refl _) hb, h.own.next hb, h.chn.next hb, h.ne, h.up⟩
theorem RtK.grow (h : RtK w w5 wr p ao n cap po k pcap eo m ecap uo ucap vo vcap g c l gx cx X) {g' c' : Nat} {l' : List Int} (hg : wr.grownBy w' (some g)) (ho : LOwn w' w5.heap.size (some ⟨g', 0, none⟩) c' l') (hat : g = g' ∨ g' = wr.heap.size) : RtK w w5 w' p ao n cap po k pcap eo m ecap uo ucap vo vcap g' c' l' gx cx X := by
  have h1 := h.own.at (x := g) rfl
  have h2 := h.chn.at (x := gx) rfl
  have hn := h.ne
  have hu := h.up
  have h5 := h.old.size
  exact ⟨h.box.far (gr_below hg (by omega) (by omega)), h.old.trans (gr_below hg (by omega) (by omega)), ho, h.chn.grown hg (fun x e => by
    have : gx = x := Option.some.inj e
    subst this
    intro e2
    exact hn (Option.some.inj e2).symm), by omega, hu⟩
theorem RtK.all (h : RtK w w5 wr p ao n cap po k pcap eo m ecap uo ucap vo vcap g c l gx cx X) {j : Nat} {lo hi : Int} (h0 : X[j]? = some lo) (h1 : X[j + 1]? = some hi) :
    wr.cell? ⟨w.heap.size, 0, none⟩ = some (.int .i64 p) ∧ wr.cell? ⟨w.heap.size, 1, none⟩ = some (.slice ao n cap) ∧ wr.cell? ⟨w.heap.size + 1, 0, none⟩ = some (.slice po k pcap) ∧ wr.cell? ⟨w.heap.size + 1, 1, none⟩ = some (.slice eo m ecap) ∧ wr.cell? ⟨w.heap.size + 1 + 1, 0, none⟩ = some (.slice uo m ucap) ∧ wr.cell? ⟨w.heap.size + 1 + 1, 1, none⟩ = some (.slice vo m vcap) ∧ wr.cell? ⟨gx, j, none⟩ = some (.int .i64 lo) ∧ wr.cell? ⟨gx, j + 1, none⟩ = some (.int .i64 hi) := by
  have hl : 0 < X.length := by have := (List.getElem?_eq_some_iff.1 h0).1; omega
  obtain ⟨g', e, _, _, hc⟩ := h.chn.cells hl
  cases e
  exact ⟨h.box.g0, h.box.g1, h.box.h0, h.box.h1, h.box.m0, h.box.m1, hc j lo h0, hc (j + 1) hi h1⟩
end
theorem step_appL {o : Oper} {ops : Array Oper} {a : Act} {w : World} {K : Act → World → Prop} {Q : Exit → Act → World → Prop} {E : Prop} (hgd : o.guard = none) (s x : Operand)
    (ho : o.op = .call { callee := .builtin .append, args := #[s, x], argTypes := #[27, 27] }) (d : Nat) (hd : o.dst = some d) (base gc g : Nat) (l l2 : List Int) (hs : a.eval s = .slice (some ⟨g, 0, none⟩) l.length gc) (hown : LOwn w base (some ⟨g, 0, none⟩) gc l) (b i c : Nat) (hx : a.eval x = .slice (some ⟨b, i, none⟩) l2.length c)
    (h0 : ∀ j u, l2[j]? = some u → w.cell? ⟨b, i + j, none⟩ = some (.int .i64 u)) (hk0 : 0 < l2.length) (hk : l.length ≤ 1000000000) (hk2 : l2.length ≤ 1000000000) (hbase : base ≤ w.heap.size)
    (h : ∀ g' gc' w', LOwn w' base (some ⟨g', 0, none⟩) gc' (l ++ l2) → w.grownBy w' (some g) → (g = g' ∨ g' = w.heap.size) → K (a.put (some d) (.slice (some ⟨g', 0, none⟩) (l.length + l2.length) gc')) w') : if Region.wanted o (yielded ops a.tmps) = true then Oper.wp Tryz.prog o a w K Q else E := by
  have hw : Region.wanted o (yielded ops a.tmps) = true := by simp [Region.wanted, hgd]
  rw [if_pos hw]
  exact wp_appL s x ho d hd base gc _ l l2 hs hown b i l2.length c rfl hx h0 hk0 hk hk2 hbase fun g' gc' w' h1 h2 h3 => h g' gc' w' h1 h2 (h3.imp (fun e => Option.some.inj e) id)

end Go.Proofs.YtokaechbmnbbiabGreat
