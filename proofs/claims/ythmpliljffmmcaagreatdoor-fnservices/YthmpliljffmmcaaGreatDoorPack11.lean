/-
  Helpers: CloS, ApC, Steps, CatG.
-/
import Derived.Test.YthmpliljffmmcaaGreatDoorPack1
import Derived.Test.YthmpliljffmmcaaGreatDoorPack10
import Derived.Deep.RegionHeld3
set_option linter.unusedVariables false
set_option linter.unusedSimpArgs false
namespace Go.Proofs.YthmpliljffmmcaaGreatDoor
section
open Go.RowKit Go.Maps
attribute [local go_sem ↓] Go.wp_at_zero Go.wp_at_succ
theorem Tryz.info9S : (Tryz.prog.info? 9).map (fun i => (i.zero, i.size, i.bytes)) = some (some (.string ByteArray.empty), 1, 16) := by kernel_rfl
theorem eqlS_some (a : Addr) (n cap : Nat) (w : World) : (binOp BinOp.eql 31 (.slice (some a) n cap) (.slice none 0 0)).run Tryz.prog w = .ok (.bool false) w := by kernel_rfl
theorem eqlS_none (n cap : Nat) (w : World) : (binOp BinOp.eql 31 (.slice none n cap) (.slice none 0 0)).run Tryz.prog w = .ok (.bool true) w := by kernel_rfl
theorem one9S (S : Nat → ByteArray) (m : Nat) : ∀ u ∈ gCells (fun j => Value.string (S j)) m, u.oneCell' = true := fun u hu => by
  simp only [gCells, List.mem_map, List.mem_range] at hu
  obtain ⟨j, _, rfl⟩ := hu
  rfl
set_option maxRecDepth 100000 in
set_option maxHeartbeats 2000000 in
theorem cloneS_pos (b o n cap : Nat) (S : Nat → ByteArray) (hn : n ≤ 1048576) (hpos : 0 < n) (w : World) (hr : GRow w (some ⟨b, o, none⟩) (n * 1) (fun j => Value.string (S j))) :
    Calls Tryz.prog 55 #[.slice (some ⟨b, o, none⟩) n cap] w fun e w' => ∃ ao' cap', e = .returned (.slice ao' n cap') ∧ GOwn w' w.heap.size 9 1 ao' n cap' (fun j => Value.string (S j)) ∧ Below w.heap.size w w' := by
  obtain ⟨i0, hi0, hz0, hz1, hz2⟩ := info_parts Tryz.info9S
  have hnil := fun W => eqlS_some ⟨b, o, none⟩ n cap W
  go_enter Tryz.func55, Tryz.ntmps55
  go_wp2_with (at_builtin; refine wpList_append_lies _ rfl _ _ _ rfl w.heap.size 9 i0 _ 1 16 Tryz.underlying31 hi0 hz0 hz1 hz2 rfl (by omega) (.slice (some ⟨w.heap.size, 0, none⟩) 0 0) 0 [] rfl (empty_ownsG w 9 1) ⟨b, o, none⟩ n cap (gCells (fun j => Value.string (S j)) (n * 1)) rfl (gCells_len _ _) (GRow.news (hr.next ((Below.refl _ _).alloc nl _))) (one9S S _) hpos (by unfold maxLen; omega) (by omega) (by simp) (w.heap.size + 1) (by simp) ?_; intro g cap' w1 hown1 hgrow hat hlt)
  simp only [Nat.zero_add, List.nil_append] at hown1 ⊢
  go_wp2
  go_ret
  refine ⟨_, _, rfl, hown1, ?_⟩
  refine Below.grown ((Below.refl _ _).alloc nl _) hgrow (by simp) ?_
  intro k hk
  simp [Value.ownBlock] at hk
  omega
set_option maxRecDepth 100000 in
set_option maxHeartbeats 2000000 in
theorem cloneS_zero (ao : Option Addr) (cap : Nat) (S : Nat → ByteArray) (w : World) :
    Calls Tryz.prog 55 #[.slice ao 0 cap] w fun e w' => ∃ ao' cap', e = .returned (.slice ao' 0 cap') ∧ GOwn w' w.heap.size 9 1 ao' 0 cap' (fun j => Value.string (S j)) ∧ Below w.heap.size w w' := by
  have hsc : ∀ (a : Addr) (w : World), (storeCells a []).run Tryz.prog w = .ok () w := fun _ _ => rfl
  cases ao with
  | none =>
    have hnil := fun W => eqlS_none 0 cap W
    go_enter Tryz.func55, Tryz.ntmps55
    go_wp2
    go_ret
    exact ⟨_, _, rfl, GOwn.nil _ _ _ _ _, by first | exact Below.refl _ _ | exact (Below.refl _ _).alloc nl _⟩
  | some a =>
    have hnil := fun W => eqlS_some a 0 cap W
    go_enter Tryz.func55, Tryz.ntmps55
    go_wp2
    go_ret
    exact ⟨_, _, rfl, GOwn.empty _ _ _ _, by first | exact Below.refl _ _ | exact (Below.refl _ _).alloc nl _⟩
theorem cloneS_any (ao : Option Addr) (n cap : Nat) (S : Nat → ByteArray) (hn : n ≤ 1048576) (w : World) (hr : GRow w ao (n * 1) (fun j => Value.string (S j))) :
    Calls Tryz.prog 55 #[.slice ao n cap] w fun e w' => ∃ ao' cap', e = .returned (.slice ao' n cap') ∧ GOwn w' w.heap.size 9 1 ao' n cap' (fun j => Value.string (S j)) ∧ Below w.heap.size w w' := by
  by_cases h : 0 < n
  · obtain ⟨b, o, e, _⟩ := hr (by omega)
    subst e
    exact cloneS_pos b o n cap S hn h w hr
  · obtain rfl : n = 0 := by omega
    exact cloneS_zero ao cap S w
end
section
open Go.RowKit Go.Maps Go.Deep Go.Joins
attribute [local go_sem ↓] Go.wp_at_zero Go.wp_at_succ
theorem IRow.g {w : World} {ao : Option Addr} {n : Nat} {P : Nat → Int} (h : IRow w ao n P) : GRow w ao (n * 1) (fun j => Value.int .i64 (P j)) := fun hm => by
  obtain ⟨b, o, e, _⟩ := h 0 (by omega)
  subst e
  refine ⟨b, o, rfl, fun j hj => ?_⟩
  obtain ⟨b', o', e', c⟩ := h j (by omega)
  cases e'
  exact c
theorem GRow.i {w : World} {ao : Option Addr} {n : Nat} {P : Nat → Int} (h : GRow w ao (n * 1) (fun j => Value.int .i64 (P j))) : IRow w ao n P := fun j hj => by
  obtain ⟨b, o, e, hc⟩ := h (by omega)
  exact ⟨b, o, e, hc j (by omega)⟩
theorem SRow.g {w : World} {ao : Option Addr} {n : Nat} {S : Nat → ByteArray} (h : SRow w ao n S) : GRow w ao (n * 1) (fun j => Value.string (S j)) := fun hm => by
  obtain ⟨b, o, e, _⟩ := h 0 (by omega)
  subst e
  refine ⟨b, o, rfl, fun j hj => ?_⟩
  obtain ⟨b', o', e', c⟩ := h j (by omega)
  cases e'
  exact c
theorem GRow.s {w : World} {ao : Option Addr} {n : Nat} {S : Nat → ByteArray} (h : GRow w ao (n * 1) (fun j => Value.string (S j))) : SRow w ao n S := fun j hj => by
  obtain ⟨b, o, e, hc⟩ := h (by omega)
  exact ⟨b, o, e, hc j (by omega)⟩
theorem ERow.g {w : World} {ao : Option Addr} {n : Nat} {L H : Nat → Int} (h : ERow w ao n L H) : GRow w ao (n * 2) (fun j => Value.int .i64 (er L H j)) := fun hm => by
  obtain ⟨b, o, e, _⟩ := h 0 (by omega)
  subst e
  refine ⟨b, o, rfl, fun j hj => ?_⟩
  obtain ⟨b', o', e', c0, c1⟩ := h (j / 2) (by omega)
  cases e'
  show w.cell? ⟨b, o + j, none⟩ = some (Value.int .i64 (if j % 2 = 0 then L (j / 2) else H (j / 2)))
  split
  · have : o + j = o + j / 2 * 2 := by omega
    rw [this]; exact c0
  · have : o + j = o + j / 2 * 2 + 1 := by omega
    rw [this]; exact c1
theorem GRow.e {w : World} {ao : Option Addr} {n : Nat} {L H : Nat → Int} (h : GRow w ao (n * 2) (fun j => Value.int .i64 (er L H j))) : ERow w ao n L H := fun j hj => by
  obtain ⟨b, o, e, hc⟩ := h (by omega)
  have h0 := hc (j * 2) (by omega)
  have h1 := hc (j * 2 + 1) (by omega)
  refine ⟨b, o, e, ?_, ?_⟩
  · simp only [er] at h0
    rw [if_pos (by omega)] at h0
    have : j * 2 / 2 = j := by omega
    rw [this] at h0
    exact h0
  · simp only [er] at h1
    rw [if_neg (by omega)] at h1
    have : (j * 2 + 1) / 2 = j := by omega
    rw [this] at h1
    exact h1
theorem trow_arcs {w : World} {ao : Option Addr} {n : Nat} {F T G : Nat → Int} (h : TRow w 67 ao (n * 3) (fun j => Value.int .i64 (ar F T G j))) : Row w ao n F T G := fun j hj => by
  obtain ⟨g, e, hv⟩ := h (by omega)
  have hh : Has w g n (ar F T G) := hv
  rw [e]
  exact hh.row j hj
structure TRowC (w : World) (t : TypeId) (ao : Option Addr) (m : Nat) (f : Nat → Value) (n cap : Nat) : Prop where
  tr : TRow w t ao m f
  room : n ≤ cap
theorem TRowC.next {w w' : World} {t : TypeId} {ao : Option Addr} {m : Nat} {f : Nat → Value} {n cap : Nat} (h : TRowC w t ao m f n cap) (hb : Below w.heap.size w w') : TRowC w' t ao m f n cap := ⟨h.tr.next hb, h.room⟩
theorem TRowC.gr {w w' : World} {t u : TypeId} {ao : Option Addr} {m : Nat} {f : Nat → Value} {row : Option Nat} {n cap : Nat} (h : TRowC w t ao m f n cap) (hg : w.grownBy w' row) (hx : ∀ x, row = some x → Typed w x u) (hn : t ≠ u) : TRowC w' t ao m f n cap := ⟨h.tr.gr hg hx hn, h.room⟩
theorem TRowC.row {w : World} {t : TypeId} {ao : Option Addr} {m : Nat} {f : Nat → Value} {n cap : Nat} (h : TRowC w t ao m f n cap) : GRow w ao m f := h.tr.row
theorem GOwn.trowC {w : World} {base : Nat} {t : TypeId} {size : Nat} {ao : Option Addr} {n cap : Nat} {f : Nat → Value} (h : GOwn w base t size ao n cap f) : TRowC w t ao (n * size) f n cap := by
  refine ⟨h.trow, ?_⟩
  rcases h.2 with ⟨e, _⟩ | ⟨g', cap', cur, e, _, _, h2, _⟩
  · cases e; exact Nat.le_refl _
  · cases e; exact h2
structure SvA (w W : World) (p : Int) (ao : Option Addr) (n cap : Nat) (po : Option Addr) (k pcap : Nat) (eo : Option Addr) (m ecap : Nat) (V : Int) (so : Option Addr) (t scap : Nat) : Prop where
  bel : Below w.heap.size w W
  box : VHas W w.heap.size 33 6 (sv6 p (.slice ao n cap) (.slice po k pcap) (.slice eo m ecap) V (.slice so t scap))
theorem SvA.next {w W W' : World} {p : Int} {ao : Option Addr} {n cap : Nat} {po : Option Addr} {k pcap : Nat} {eo : Option Addr} {m ecap : Nat} {V : Int} {so : Option Addr} {t scap : Nat} (h : SvA w W p ao n cap po k pcap eo m ecap V so t scap) (hb : Below W.heap.size W W') : SvA w W' p ao n cap po k pcap eo m ecap V so t scap := ⟨below_next h.bel nl hb, h.box.next hb⟩
theorem SvA.other {w W : World} {p : Int} {ao : Option Addr} {n cap : Nat} {po : Option Addr} {k pcap : Nat} {eo : Option Addr} {m ecap : Nat} {V : Int} {so : Option Addr} {t scap : Nat} (h : SvA w W p ao n cap po k pcap eo m ecap V so t scap) (v0 v1 v2 v3 v4 v5 : Value) :
    SvA w ((((((W.setCell ⟨w.heap.size + 1, 0, none⟩ v0).setCell ⟨w.heap.size + 1, 1, none⟩ v1).setCell ⟨w.heap.size + 1, 2, none⟩ v2).setCell ⟨w.heap.size + 1, 3, none⟩ v3).setCell ⟨w.heap.size + 1, 4, none⟩ v4).setCell ⟨w.heap.size + 1, 5, none⟩ v5) p ao n cap po k pcap eo m ecap V so t scap :=
  ⟨(((((h.bel.setCell (p := ⟨w.heap.size + 1, 0, none⟩) (by simp) _).setCell (p := ⟨w.heap.size + 1, 1, none⟩) (by simp) _).setCell (p := ⟨w.heap.size + 1, 2, none⟩) (by simp) _).setCell (p := ⟨w.heap.size + 1, 3, none⟩) (by simp) _).setCell (p := ⟨w.heap.size + 1, 4, none⟩) (by simp) _).setCell (p := ⟨w.heap.size + 1, 5, none⟩) (by simp) _,
   (((((h.box.other (by omega) _).other (by omega) _).other (by omega) _).other (by omega) _).other (by omega) _).other (by omega) _⟩
def SvCp (w w' : World) (e : Ending) (p : Int) (n : Nat) (F T G : Nat → Int) (k : Nat) (P : Nat → Int) (m : Nat) (L H : Nat → Int) (V : Int) (t : Nat) (S : Nat → ByteArray) : Prop :=
  ∃ ao cap po pcap eo ecap so scap, e = .returned (.agg #[.int .i64 p, .slice ao n cap, .slice po k pcap, .slice eo m ecap, .int .i64 V, .slice so t scap]) ∧ TRow w' 67 ao (n * 3) (fun j => Value.int .i64 (ar F T G j)) ∧ TRow w' 2 po (k * 1) (fun j => Value.int .i64 (P j)) ∧ TRowC w' 94 eo (m * 2) (fun j => Value.int .i64 (er L H j)) m ecap ∧ GOwn w' w.heap.size 9 1 so t scap (fun j => Value.string (S j)) ∧ Below w.heap.size w w'
set_option maxRecDepth 100000 in
set_option maxHeartbeats 8000000 in
theorem copyOfService_any (p : Int) (ao : Option Addr) (n cap : Nat) (F T G : Nat → Int) (po : Option Addr) (k pcap : Nat) (P : Nat → Int) (eo : Option Addr) (m ecap : Nat) (L H : Nat → Int) (V : Int) (so : Option Addr) (t scap : Nat) (S : Nat → ByteArray) (hn : n ≤ 1048576) (hk : k ≤ 1048576) (hm : m ≤ 1048576) (ht : t ≤ 1048576) (w : World) (hr : Row w ao n F T G) (hp : IRow w po k P) (he : ERow w eo m L H) (hs : SRow w so t S) :
    Calls Tryz.prog 24 #[.agg #[.int .i64 p, .slice ao n cap, .slice po k pcap, .slice eo m ecap, .int .i64 V, .slice so t scap]] w fun e w' => SvCp w w' e p n F T G k P m L H V t S := by
  have hA : Below w.heap.size w ((w.alloc (.cells #[.int .i64 p, .slice ao n cap, .slice po k pcap, .slice eo m ecap, .int .i64 V, .slice so t scap] 33)).alloc (.cells #[.int .i64 0, .slice none 0 0, .slice none 0 0, .slice none 0 0, .int .i64 0, .slice none 0 0] 33)) := ((Below.refl _ _).alloc nl _).alloc (by simp) _
  have vA := (sv6_new w p (.slice ao n cap) (.slice po k pcap) (.slice eo m ecap) V (.slice so t scap) 33).alloc (.cells #[.int .i64 0, .slice none 0 0, .slice none 0 0, .slice none 0 0, .int .i64 0, .slice none 0 0] 33)
  have vR := sv6_new (w.alloc (.cells #[.int .i64 p, .slice ao n cap, .slice po k pcap, .slice eo m ecap, .int .i64 V, .slice so t scap] 33)) 0 (.slice none 0 0) (.slice none 0 0) (.slice none 0 0) 0 (.slice none 0 0) 33
  simp only [World.size_alloc] at vR
  have hsz : ((w.alloc (.cells #[.int .i64 p, .slice ao n cap, .slice po k pcap, .slice eo m ecap, .int .i64 V, .slice so t scap] 33)).alloc (.cells #[.int .i64 0, .slice none 0 0, .slice none 0 0, .slice none 0 0, .int .i64 0, .slice none 0 0] 33)).heap.size = w.heap.size + 2 := by simp
  replace hr := hr.below hA nl
  replace hp := hp.below hA nl
  replace he := he.below hA nl
  replace hs := hs.below hA nl
  go_enter Tryz.func24, Tryz.ntmps24
  go_wp2_with fail
  generalize ((w.alloc (.cells #[.int .i64 p, .slice ao n cap, .slice po k pcap, .slice eo m ecap, .int .i64 V, .slice so t scap] 33)).alloc (.cells #[.int .i64 0, .slice none 0 0, .slice none 0 0, .slice none 0 0, .int .i64 0, .slice none 0 0] 33)) = W at hA vA vR hr hp he hs hsz ⊢
  have hd := (Below.refl W.heap.size W).drew
  replace vA := vA.next hd
  replace vR := vR.next hd
  replace hr := hr.below hd nl
  replace hp := (hp.below hd nl).g
  replace he := (he.below hd nl).g
  replace hs := (hs.below hd nl).g
  replace hA := hA.drew
  have hsd : W.drew.heap.size = w.heap.size + 2 := hsz
  have B0 : SvA w W.drew p ao n cap po k pcap eo m ecap V so t scap := ⟨hA, vA⟩
  refine wp_region_held_drew (S := fun w' => SvA w w' p ao n cap po k pcap eo m ecap V so t scap) (by kernel_rfl) B0 (fun hS => ?_)
  generalize W.drew = W1 at B0 hS vR hr hp he hs hsd ⊢
  clear vA hA hd
  refine tK 0 (some 3) (.pointer (some ⟨w.heap.size, 0, none⟩)) rfl rfl hS (fun w hSw => by obtain ⟨y0, y1, y2, y3, y4, y5⟩ := hSw.box.c6; simp [sv6] at y0 y1 y2 y3 y4 y5; go_split_ands; go_simp <;> first | rfl | omega | (intro h; exfalso; omega)) ?_
  simp only [pS]
  refine tK 1 (some 4) (.agg #[.int .i64 p, .slice ao n cap]) rfl rfl hS (fun w hSw => by obtain ⟨y0, y1, y2, y3, y4, y5⟩ := hSw.box.c6; simp [sv6] at y0 y1 y2 y3 y4 y5; go_split_ands; go_simp <;> first | rfl | omega | (intro h; exfalso; omega)) ?_
  simp only [pS]
  refine tK 3 (some 6) (.pointer (some ⟨w.heap.size, 2, none⟩)) rfl rfl hS (fun w hSw => by obtain ⟨y0, y1, y2, y3, y4, y5⟩ := hSw.box.c6; simp [sv6] at y0 y1 y2 y3 y4 y5; go_split_ands; go_simp <;> first | rfl | omega | (intro h; exfalso; omega)) ?_
  simp only [pS]
  refine tK 4 (some 7) (.pointer (some ⟨w.heap.size, 2, none⟩)) rfl rfl hS (fun w hSw => by obtain ⟨y0, y1, y2, y3, y4, y5⟩ := hSw.box.c6; simp [sv6] at y0 y1 y2 y3 y4 y5; go_split_ands; go_simp <;> first | rfl | omega | (intro h; exfalso; omega)) ?_
  simp only [pS]
  refine tK 5 (some 8) (.slice po k pcap) rfl rfl hS (fun w hSw => by obtain ⟨y0, y1, y2, y3, y4, y5⟩ := hSw.box.c6; simp [sv6] at y0 y1 y2 y3 y4 y5; go_split_ands; go_simp <;> first | rfl | omega | (intro h; exfalso; omega)) ?_
  simp only [pS]
  refine tK 7 (some 10) (.pointer (some ⟨w.heap.size, 2, none⟩)) rfl rfl hS (fun w hSw => by obtain ⟨y0, y1, y2, y3, y4, y5⟩ := hSw.box.c6; simp [sv6] at y0 y1 y2 y3 y4 y5; go_split_ands; go_simp <;> first | rfl | omega | (intro h; exfalso; omega)) ?_
  simp only [pS]
  refine tK 8 (some 11) (.pointer (some ⟨w.heap.size, 3, none⟩)) rfl rfl hS (fun w hSw => by obtain ⟨y0, y1, y2, y3, y4, y5⟩ := hSw.box.c6; simp [sv6] at y0 y1 y2 y3 y4 y5; go_split_ands; go_simp <;> first | rfl | omega | (intro h; exfalso; omega)) ?_
  simp only [pS]
  refine tK 9 (some 12) (.slice eo m ecap) rfl rfl hS (fun w hSw => by obtain ⟨y0, y1, y2, y3, y4, y5⟩ := hSw.box.c6; simp [sv6] at y0 y1 y2 y3 y4 y5; go_split_ands; go_simp <;> first | rfl | omega | (intro h; exfalso; omega)) ?_
  simp only [pS]
  refine tK 12 (some 15) (.pointer (some ⟨w.heap.size, 4, none⟩)) rfl rfl hS (fun w hSw => by obtain ⟨y0, y1, y2, y3, y4, y5⟩ := hSw.box.c6; simp [sv6] at y0 y1 y2 y3 y4 y5; go_split_ands; go_simp <;> first | rfl | omega | (intro h; exfalso; omega)) ?_
  simp only [pS]
  refine tK 13 (some 16) (.int .i64 V) rfl rfl hS (fun w hSw => by obtain ⟨y0, y1, y2, y3, y4, y5⟩ := hSw.box.c6; simp [sv6] at y0 y1 y2 y3 y4 y5; go_split_ands; go_simp <;> first | rfl | omega | (intro h; exfalso; omega)) ?_
  simp only [pS]
  refine tK 14 (some 17) (.pointer (some ⟨w.heap.size, 5, none⟩)) rfl rfl hS (fun w hSw => by obtain ⟨y0, y1, y2, y3, y4, y5⟩ := hSw.box.c6; simp [sv6] at y0 y1 y2 y3 y4 y5; go_split_ands; go_simp <;> first | rfl | omega | (intro h; exfalso; omega)) ?_
  simp only [pS]
  refine tK 15 (some 18) (.slice so t scap) rfl rfl hS (fun w hSw => by obtain ⟨y0, y1, y2, y3, y4, y5⟩ := hSw.box.c6; simp [sv6] at y0 y1 y2 y3 y4 y5; go_split_ands; go_simp <;> first | rfl | omega | (intro h; exfalso; omega)) ?_
  simp only [pS]
  refine step1H 2 _ rfl (by kernel_rfl) (by rfl) ?_
  go_simp
  refine (copyOfGraph_any p ao n cap F T G hn _ hr).mono ?_
  rintro e w1 ⟨aoN, capN, rfl, hO, hb1⟩
  have hS1 := SvA.next hS hb1
  replace vR := vR.next hb1
  refine ⟨hS1, ?_⟩
  refine step1H 6 _ rfl (by kernel_rfl) (by rfl) ?_
  go_simp
  refine (cloneI_any po k pcap P hk _ (hp.next hb1)).mono ?_
  rintro e w2 ⟨poN, pcN, rfl, hI, hb2⟩
  have hS2 := SvA.next hS1 hb2
  replace vR := vR.next hb2
  refine ⟨hS2, ?_⟩
  refine step1H 10 _ rfl (by kernel_rfl) (by rfl) ?_
  go_simp
  refine (cloneE_any eo m ecap (er L H) hm _ ((he.next hb1).next hb2)).mono ?_
  rintro e w3 ⟨eoN, ecN, rfl, hE, hb3⟩
  have hS3 := SvA.next hS2 hb3
  replace vR := vR.next hb3
  refine ⟨hS3, ?_⟩
  refine tK 11 (some 14) (.agg #[.slice poN k pcN, .slice eoN m ecN]) rfl rfl hS3 (fun w hSw => by obtain ⟨y0, y1, y2, y3, y4, y5⟩ := hSw.box.c6; simp [sv6] at y0 y1 y2 y3 y4 y5; go_split_ands; go_simp <;> first | rfl | omega | (intro h; exfalso; omega)) ?_
  simp only [pS]
  refine step1H 16 _ rfl (by kernel_rfl) (by rfl) ?_
  go_simp
  refine (cloneS_any so t scap S ht _ (((hs.next hb1).next hb2).next hb3)).mono ?_
  rintro e w4 ⟨soN, scN, rfl, hSt, hb4⟩
  have hS4 := SvA.next hS3 hb4
  replace vR := vR.next hb4
  refine ⟨hS4, ?_⟩
  refine tK 17 (some 20) (.agg #[.int .i64 p, .slice aoN n capN, .slice poN k pcN, .slice eoN m ecN, .int .i64 V, .slice soN t scN]) rfl rfl hS4 (fun w hSw => by obtain ⟨y0, y1, y2, y3, y4, y5⟩ := hSw.box.c6; simp [sv6] at y0 y1 y2 y3 y4 y5; go_split_ands; go_simp <;> first | rfl | omega | (intro h; exfalso; omega)) ?_
  simp only [pS]
  have r0 : w4.cell? ⟨w.heap.size + 1, 0, none⟩ = some (.int .i64 0) := vR.cell (j := 0) (by omega)
  have z0 := vR.frozen 0
  have r1 : w4.cell? ⟨w.heap.size + 1, 1, none⟩ = some (.slice none 0 0) := vR.cell (j := 1) (by omega)
  have z1 := vR.frozen 1
  have r2 : w4.cell? ⟨w.heap.size + 1, 2, none⟩ = some (.slice none 0 0) := vR.cell (j := 2) (by omega)
  have z2 := vR.frozen 2
  have r3 : w4.cell? ⟨w.heap.size + 1, 3, none⟩ = some (.slice none 0 0) := vR.cell (j := 3) (by omega)
  have z3 := vR.frozen 3
  have r4 : w4.cell? ⟨w.heap.size + 1, 4, none⟩ = some (.int .i64 0) := vR.cell (j := 4) (by omega)
  have z4 := vR.frozen 4
  have r5 : w4.cell? ⟨w.heap.size + 1, 5, none⟩ = some (.slice none 0 0) := vR.cell (j := 5) (by omega)
  have z5 := vR.frozen 5
  refine step1H 18 _ rfl (by kernel_rfl) (by rfl) ?_
  go_simp
  refine ⟨hS4.other _ _ _ _ _ _, ?_⟩
  refine wpAnyH_done (by kernel_rfl) ?_ _
  have u := ((((((vR.set 0 (.int .i64 p)).set 1 (.slice aoN n capN)).set 2 (.slice poN k pcN)).set 3 (.slice eoN m ecN)).set 4 (.int .i64 V)).set 5 (.slice soN t scN))
  obtain ⟨q0, q1, q2, q3, q4, q5⟩ := u.c6
  simp at q0 q1 q2 q3 q4 q5
  have keep : ∀ x, x ≠ w.heap.size + 1 → ((((((w4.setCell ⟨w.heap.size + 1, 0, none⟩ (.int .i64 p)).setCell ⟨w.heap.size + 1, 1, none⟩ (.slice aoN n capN)).setCell ⟨w.heap.size + 1, 2, none⟩ (.slice poN k pcN)).setCell ⟨w.heap.size + 1, 3, none⟩ (.slice eoN m ecN)).setCell ⟨w.heap.size + 1, 4, none⟩ (.int .i64 V)).setCell ⟨w.heap.size + 1, 5, none⟩ (.slice soN t scN)).heap[x]? = w4.heap[x]? := fun x hx => by
    rw [Below.heap_setCell _ _ _ _ (by simpa using hx), Below.heap_setCell _ _ _ _ (by simpa using hx), Below.heap_setCell _ _ _ _ (by simpa using hx), Below.heap_setCell _ _ _ _ (by simpa using hx), Below.heap_setCell _ _ _ _ (by simpa using hx), Below.heap_setCell _ _ _ _ (by simpa using hx)]
  have s1 := hb1.size
  have s2 := hb2.size
  have s3 := hb3.size
  have s4 := hb4.size
  replace hI := (hI.next hb3).next hb4
  replace hE := hE.next hb4
  have hO4 : 0 < n → ∃ g, aoN = some ⟨g, 0, none⟩ ∧ W1.heap.size ≤ g ∧ Has w4 g n (ar F T G) := fun h => by
    obtain ⟨g, e, hg, hh⟩ := hO h
    exact ⟨g, e, hg, ((hh.below hb2 hh.lt).below hb3 (hh.below hb2 hh.lt).lt).below hb4 ((hh.below hb2 hh.lt).below hb3 (hh.below hb2 hh.lt).lt).lt⟩
  have hBX : Below w.heap.size w ((((((w4.setCell ⟨w.heap.size + 1, 0, none⟩ (.int .i64 p)).setCell ⟨w.heap.size + 1, 1, none⟩ (.slice aoN n capN)).setCell ⟨w.heap.size + 1, 2, none⟩ (.slice poN k pcN)).setCell ⟨w.heap.size + 1, 3, none⟩ (.slice eoN m ecN)).setCell ⟨w.heap.size + 1, 4, none⟩ (.int .i64 V)).setCell ⟨w.heap.size + 1, 5, none⟩ (.slice soN t scN)) := ((((((hS4.bel.setCell (p := ⟨w.heap.size + 1, 0, none⟩) (by simp) _).setCell (p := ⟨w.heap.size + 1, 1, none⟩) (by simp) _).setCell (p := ⟨w.heap.size + 1, 2, none⟩) (by simp) _).setCell (p := ⟨w.heap.size + 1, 3, none⟩) (by simp) _).setCell (p := ⟨w.heap.size + 1, 4, none⟩) (by simp) _).setCell (p := ⟨w.heap.size + 1, 5, none⟩) (by simp) _)
  generalize ((((((w4.setCell ⟨w.heap.size + 1, 0, none⟩ (.int .i64 p)).setCell ⟨w.heap.size + 1, 1, none⟩ (.slice aoN n capN)).setCell ⟨w.heap.size + 1, 2, none⟩ (.slice poN k pcN)).setCell ⟨w.heap.size + 1, 3, none⟩ (.slice eoN m ecN)).setCell ⟨w.heap.size + 1, 4, none⟩ (.int .i64 V)).setCell ⟨w.heap.size + 1, 5, none⟩ (.slice soN t scN)) = WX at q0 q1 q2 q3 q4 q5 keep hBX ⊢
  clear r0 r1 r2 r3 r4 r5 z0 z1 z2 z3 z4 z5 u vR hS hS1 hS2 hS3 hS4 B0
  go_wp2
  refine bodyPost_ret (v := .agg #[.int .i64 p, .slice aoN n capN, .slice poN k pcN, .slice eoN m ecN, .int .i64 V, .slice soN t scN]) (by simp [results, Tryz.results24, go_sem, q0, q1, q2, q3, q4, q5]) rfl ⟨aoN, capN, poN, pcN, eoN, ecN, soN, scN, rfl, ?_, ?_, ?_, ?_, hBX⟩
  · intro hm
    obtain ⟨g, e, hg, hh⟩ := hO4 (by omega)
    exact ⟨g, e, hh.of_block (keep g (by omega))⟩
  · exact (hI.of_block (fun x hx => keep x (by have := (hI.at hx).1; omega))).trow
  · exact (hE.of_block (fun x hx => keep x (by have := (hE.at hx).1; omega))).trowC
  · exact (hSt.of_block (fun x hx => keep x (by have := (hSt.at hx).1; omega))).from (by omega)
end
section
open Go
theorem wp_of_run {P : Program} {o : Oper} {a : Act} {w : World} {K : Act → World → Prop} {Q : Exit → Act → World → Prop} {v : Value} (h : (execOp a.eval o).run P w = .ok (.value v) w) (hK : K (a.put o.dst v) w) : o.wp P a w K Q := by
  unfold Oper.wp
  rw [h]
  exact hK
theorem wp_of_skip {P : Program} {o : Oper} {a : Act} {w w' : World} {K : Act → World → Prop} {Q : Exit → Act → World → Prop} (h : (execOp a.eval o).run P w = .ok .skip w') (hK : K (a.put o.dst undef) w') : o.wp P a w K Q := by
  unfold Oper.wp
  rw [h]
  exact hK
theorem step2H {P : Program} {ops : Array Oper} {Q : Exit → Act → World → Prop} {md : Region.Mode} {S : World → Prop} (i j : Nat) (oi oj : Oper) {fuel : Nat} {listed : Array Bool} {a : Act} {w : World} (hi : ops[i]? = some oi) (hj : ops[j]? = some oj) (hr : Region.ready md ops listed = [i, j])
    (hwi : Region.wanted oi (yielded ops a.tmps) = true) (hwj : Region.wanted oj (yielded ops a.tmps) = true)
    (h1 : Oper.wp P oi a w (fun a' w' => S w' ∧ wpAnyH P md ops Q S fuel (listed.setIfInBounds i true) a' w') Q) (h2 : Oper.wp P oj a w (fun a' w' => S w' ∧ wpAnyH P md ops Q S fuel (listed.setIfInBounds j true) a' w') Q) : wpAnyH P md ops Q S (fuel + 1) listed a w :=
  wpAnyH_ready hr (by simp) (AllReadyH.cons hi (fun K hK => by rw [if_pos hwi]; exact Oper.wp_mono (fun a' w' h' => hK.out _ _ h'.1 (fun _ => h'.2)) h1) (AllReadyH.cons hj (fun K hK => by rw [if_pos hwj]; exact Oper.wp_mono (fun a' w' h' => hK.out _ _ h'.1 (fun _ => h'.2)) h2) AllReadyH.nil))
end
section
open Go.RowKit Go.Maps Go.Deep Go.Joins
theorem GOwn.gr {w w' : World} {base : Nat} {t u : TypeId} {size : Nat} {ao : Option Addr} {n cap : Nat} {f : Nat → Value} {row : Option Nat} (h : GOwn w base t size ao n cap f) (hg : w.grownBy w' row) (hx : ∀ x, row = some x → Typed w x u) (hn : t ≠ u) : GOwn w' base t size ao n cap f :=
  h.grown hg (fun x e q => typed_ne (h.typed e) (hx x q) hn rfl)
end
end Go.Proofs.YthmpliljffmmcaaGreatDoor
