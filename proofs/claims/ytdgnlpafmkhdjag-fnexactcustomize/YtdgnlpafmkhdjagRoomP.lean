/-
  The program's room where weights are worked out: made, cleared, weighed, handed out.
-/
import Derived.Test.YtdgnlpafmkhdjagPack2
import Derived.Test.YtdgnlpafmkhdjagPack5
import Derived.Test.YtdgnlpafmkhdjagPack3
import Derived.Test.YtdgnlpafmkhdjagPack4
import Derived.Laws.CopyOwn
import Derived.Laws.Rows
set_option linter.unusedVariables false
set_option linter.unusedSimpArgs false
namespace Go.Proofs.Ytdgnlpafmkhdjag
open Go.RowKit Go.Deep Go.Joins Go.Maps
attribute [local go_sem ↓] Go.wp_at_zero Go.wp_at_succ

theorem alloc_b (X : World) (o : Obj) : Below X.heap.size X (X.alloc o) := (Below.refl _ _).alloc (Nat.le_refl _) o
theorem hid_alloc {w X : World} (h : Hid (Below w.heap.size w X)) (o : Obj) : Hid (Below w.heap.size w (X.alloc o)) := h.out.alloc h.out.size o
theorem hid_next {w X Y : World} (h : Hid (Below w.heap.size w X)) (hb : Below X.heap.size X Y) : Hid (Below w.heap.size w Y) := below_next h.out (Nat.le_refl _) hb

theorem IHas.al {X : World} {b n : Nat} {f : Nat → Int} (h : IHas X b n f) (o : Obj) : IHas (X.alloc o) b n f := h.below (alloc_b X o) h.lt
theorem IHas.nx {X Y : World} {b n : Nat} {f : Nat → Int} (h : IHas X b n f) (hb : Below X.heap.size X Y) : IHas Y b n f := h.below hb h.lt
theorem made_at (A : World) (b m : Nat) (h : b = A.heap.size) : IHas (A.alloc (.cells (madeCells #[.int .i64 0] m) 2)) b m (fun _ => 0) := by
  subst h; exact made_ints A m
abbrev OMap (W : World) (b m : Nat) (L H : Nat → Int) : Prop := W.ownsMap Try.prog 64 (plainElem (H := Unit) Try.prog 3) b m (enums L H m)
theorem omap_nx {X Y : World} {b m : Nat} {L H : Nat → Int} (h : OMap X b m L H) (hb : Below X.heap.size X Y) : OMap Y b m L H := ownsMap_block h (hb.block b (World.ownsMap.lt h))
theorem omap_al {X : World} {b m : Nat} {L H : Nat → Int} (h : OMap X b m L H) (o : Obj) : OMap (X.alloc o) b m L H := omap_nx h (alloc_b X o)

/-- The cells of the room. -/
def rmc (eo : Option Addr) (m ecap g k rcap bm bU bV : Nat) : Array Value := #[.slice eo m ecap, .slice (some ⟨g, 0, none⟩) k rcap, .map (some bm), .slice (some ⟨bU, 0, none⟩) m m, .slice (some ⟨bV, 0, none⟩) m m]
/-- The room in block b: its edges, its ranks, its numbers, the two lists. -/
structure Room (w : World) (k : Nat) (P : Nat → Int) (eo : Option Addr) (m ecap : Nat) (L H : Nat → Int) (b g rcap bm bU bV : Nat) (U V : Nat → Int) (W : World) : Prop where
  bel : Below w.heap.size w W
  box : W.heap[b]? = some (.cells (rmc eo m ecap g k rcap bm bU bV) 115 (0, 0))
  rks : IHas W g k (rk P (-1) k)
  nos : OMap W bm m L H
  up : IHas W bU m U
  dn : IHas W bV m V
  ge : w.heap.size ≤ b ∧ w.heap.size ≤ g ∧ w.heap.size ≤ bm ∧ w.heap.size ≤ bU ∧ w.heap.size ≤ bV
  ne : bU ≠ bV ∧ g ≠ bU ∧ g ≠ bV ∧ b ≠ bU ∧ b ≠ bV ∧ bm ≠ bU ∧ bm ≠ bV
section
variable {w : World} {k : Nat} {P : Nat → Int} {eo : Option Addr} {m ecap : Nat} {L H : Nat → Int} {b g rcap bm bU bV : Nat} {U V : Nat → Int} {W W' : World}
theorem Room.next (h : Room w k P eo m ecap L H b g rcap bm bU bV U V W) (hb : Below W.heap.size W W') : Room w k P eo m ecap L H b g rcap bm bU bV U V W' :=
  ⟨below_next h.bel (Nat.le_refl _) hb, (hb.block b (Array.getElem?_eq_some_iff.1 h.box).1).trans h.box, h.rks.nx hb, omap_nx h.nos hb, h.up.nx hb, h.dn.nx hb, h.ge, h.ne⟩
theorem Room.cell (h : Room w k P eo m ecap L H b g rcap bm bU bV U V W) {j : Nat} {v : Value} (hv : (rmc eo m ecap g k rcap bm bU bV)[j]? = some v) : W.cell? ⟨b, j, none⟩ = some v := by
  rw [cell_of_row W b j _ _ _ h.box]; exact hv
/-- A step that turns the list upward alone. -/
theorem Room.turnU (h : Room w k P eo m ecap L H b g rcap bm bU bV U V W) {U' : Nat → Int} (hg : W.grownBy W' (some bU)) (hU : IHas W' bU m U') : Room w k P eo m ecap L H b g rcap bm bU bV U' V W' := by
  obtain ⟨n1, n2, n3, n4, n5, n6, n7⟩ := h.ne
  exact ⟨below_far (B := w.heap.size) h.bel hg (fun x e => by cases e; exact h.ge.2.2.2.1) (Nat.le_refl _), (hg.block b (Array.getElem?_eq_some_iff.1 h.box).1 (by simp; exact n4)).trans h.box, h.rks.grown hg (by simp; exact n2), World.ownsMap.kept h.nos hg (by simp; exact n6), hU, h.dn.grown hg (by simp; exact fun e => n1 e.symm), h.ge, h.ne⟩
theorem Room.turnD (h : Room w k P eo m ecap L H b g rcap bm bU bV U V W) {V' : Nat → Int} (hg : W.grownBy W' (some bV)) (hV : IHas W' bV m V') : Room w k P eo m ecap L H b g rcap bm bU bV U V' W' := by
  obtain ⟨n1, n2, n3, n4, n5, n6, n7⟩ := h.ne
  exact ⟨below_far (B := w.heap.size) h.bel hg (fun x e => by cases e; exact h.ge.2.2.2.2) (Nat.le_refl _), (hg.block b (Array.getElem?_eq_some_iff.1 h.box).1 (by simp; exact n5)).trans h.box, h.rks.grown hg (by simp; exact n3), World.ownsMap.kept h.nos hg (by simp; exact n7), h.up.grown hg (by simp; exact n1), hV, h.ge, h.ne⟩
theorem Room.congr (h : Room w k P eo m ecap L H b g rcap bm bU bV U V W) {U' V' : Nat → Int} (h1 : ∀ j, j < m → U j = U' j) (h2 : ∀ j, j < m → V j = V' j) : Room w k P eo m ecap L H b g rcap bm bU bV U' V' W :=
  ⟨h.bel, h.box, h.rks, h.nos, h.up.congr h1, h.dn.congr h2, h.ge, h.ne⟩
end
theorem box_at (X : World) (b : Nat) (c : Array Value) (h : b = X.heap.size) : (X.alloc (.cells c 115)).heap[b]? = some (.cells c 115 (0, 0)) := by
  subst h; exact heap_alloc_new X _

set_option maxRecDepth 100000 in
set_option maxHeartbeats 8000000 in
theorem newWorkroom_any (po : Option Addr) (k pcap : Nat) (P : Nat → Int) (eo : Option Addr) (m ecap : Nat) (L H : Nat → Int) (hk : k ≤ 1048576) (hm : m ≤ 1048576) (hok : okR k P = true) (hwf : EWf L H m) (w : World) (hp : IRow w po k P) (he : ERow w eo m L H) :
    Calls Try.prog 66 #[.agg #[.slice po k pcap, .slice eo m ecap]] w fun e w' => ∃ b g rcap bm bU bV, e = .returned (.pointer (some ⟨b, 0, none⟩)) ∧ Room w k P eo m ecap L H b g rcap bm bU bV (fun _ => 0) (fun _ => 0) w' := by
  have hmk := make_ints m hm
  have hL : lenR k P = k := by unfold lenR; rw [if_pos hok]
  have hk0 : 0 < k := by simp [okR] at hok; omega
  have HRK := fun ao' W hr' => implRanks_any ao' k pcap P hk W hr'
  rw [hL] at HRK
  have HRK' : Hid (∀ ao' W, IRow W ao' k P → Calls Try.prog 83 #[.slice ao' k pcap] W fun e w' => Ans W w' e k (rk P (-1) k)) := HRK
  clear HRK hL hok
  go_enter Try.func66, Try.ntmps66
  go_wp2_with fail
  have hB0 : Hid (Below w.heap.size w (w.alloc (.cells #[.slice po k pcap, .slice eo m ecap] 41)).drew) := ((Below.refl _ _).alloc (Nat.le_refl _) _).drew
  have y0 : (w.alloc (.cells #[.slice po k pcap, .slice eo m ecap] 41)).drew.cell? ⟨w.heap.size, 0, none⟩ = some (.slice po k pcap) := by simp [go_sem]
  have y1 : (w.alloc (.cells #[.slice po k pcap, .slice eo m ecap] 41)).drew.cell? ⟨w.heap.size, 1, none⟩ = some (.slice eo m ecap) := by simp [go_sem]
  go_region_held3 (fun w' => w'.cell? ⟨w.heap.size, 0, none⟩ = some (.slice po k pcap) ∧ w'.cell? ⟨w.heap.size, 1, none⟩ = some (.slice eo m ecap) ∧ Hid (Below w.heap.size w w'))
    (first | (go_split_ands; exact ⟨keep_cell hbN (Nat.le_refl _) (by assumption), keep_cell hbN (Nat.le_refl _) (by assumption), hid_next (by assumption) hbN⟩) | (go_split_ands; exact ⟨keep_cell hbR (Nat.le_refl _) (by assumption), keep_cell hbR (Nat.le_refl _) (by assumption), hid_next (by assumption) hbR⟩) | (go_split_ands; exact ⟨keep_cell (alloc_b _ _) (Nat.le_refl _) (by assumption), keep_cell (alloc_b _ _) (Nat.le_refl _) (by assumption), hid_alloc (by assumption) _⟩) | (refine ⟨?_, ?_, ?_⟩ <;> assumption))
    (first | (go_at_call 83; go_split_ands; refine (HRK'.out po _ (hp.below (Hid.out (by assumption)) (Nat.le_refl _))).mono ?_; rintro e wR ⟨aoR, capR, rfl, hR, hbR⟩; obtain ⟨gR, rfl, hgR, iR⟩ := hR hk0; have hgl := iR.lt; clear hR) | (go_at_call 46; go_split_ands; refine (edgeNumbers_any eo m ecap L H hm hwf _ (he.below (Hid.out (by assumption)) (Nat.le_refl _))).mono ?_; rintro e wN ⟨rfl, hN, hbN⟩))
  all_goals
    go_split_ands
    go_wp2
    go_ret
    have hsR := hbR.size
    have hsN := hbN.size
    have hnl := World.ownsMap.lt hN
    simp only [World.size_alloc, World.size_drew] at hsR hsN hgR hnl hN
    refine ⟨_, gR, capR, _, _, _, rfl, ⟨Hid.out (by assumption), box_at _ _ _ (by simp), ?_, ?_, ?_, ?_, ?_, ?_⟩⟩
    · repeat (first | exact iR | refine IHas.al ?_ _ | refine IHas.nx ?_ hbN)
    · repeat (first | exact hN | refine omap_al ?_ _)
    · repeat (first | (refine made_at _ _ _ ?_; simp; done) | (refine made_at _ _ _ ?_; rfl) | refine IHas.al ?_ _ | refine IHas.nx ?_ hbN | refine IHas.nx ?_ hbR)
    · repeat (first | (refine made_at _ _ _ ?_; simp; done) | (refine made_at _ _ _ ?_; rfl) | refine IHas.al ?_ _ | refine IHas.nx ?_ hbN | refine IHas.nx ?_ hbR)
    · (try simp only [World.size_alloc, World.size_drew]); omega
    · (try simp only [World.size_alloc, World.size_drew]); omega

end Go.Proofs.Ytdgnlpafmkhdjag
