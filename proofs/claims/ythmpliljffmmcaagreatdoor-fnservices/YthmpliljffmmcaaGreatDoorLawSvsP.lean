/-
  The walk of the law FnServices, at every list of bytes.
-/
import Derived.Test.YthmpliljffmmcaaGreatDoorPack1
import Derived.Test.YthmpliljffmmcaaGreatDoorPack33
import Derived.Test.YthmpliljffmmcaaGreatDoorPack38
import Derived.Test.YthmpliljffmmcaaGreatDoorPack18
import Derived.Test.YthmpliljffmmcaaGreatDoorPack35
import Derived.Test.YthmpliljffmmcaaGreatDoorPack14
import Derived.Test.YthmpliljffmmcaaGreatDoorPack17
import Derived.Test.YthmpliljffmmcaaGreatDoorPack12
import Derived.Test.YthmpliljffmmcaaGreatDoorPack27
import Derived.Deep.RegionHeld3
set_option linter.unusedVariables false
set_option linter.unusedSimpArgs false
namespace Go.Proofs.YthmpliljffmmcaaGreatDoor
open Go.ChangeShapes Go.WideShapes Go.ChangeAt Go.RowKit Go.Deep Go.Joins Go.Maps
attribute [local go_sem ↓] Go.wp_at_zero Go.wp_at_succ

structure LB (w : World) (sb cb : Nat) (p2 : Int) (ao : Option Addr) (n cap : Nat) (po : Option Addr) (k2 pc : Nat) (eo : Option Addr) (m ec : Nat) (V : Int) (so : Option Addr) (t sc : Nat) (K : Int) (xo : Option Addr) (x xc : Nat) (a b : Int) (F T G P L H : Nat → Int) (S : Nat → ByteArray) (A B C : Nat → Int) (W : World) : Prop where
  bel : Below w.heap.size w W
  sB : VHas W sb 33 6 (sv6 p2 (.slice ao n cap) (.slice po k2 pc) (.slice eo m ec) V (.slice so t sc))
  cB : VHas W cb 35 4 (cq4 K (.slice xo x xc) a b)
  M : SvM W ao n po k2 eo m so t F T G P L H S
  X : RowT W 67 xo (x * 3) (fun j => Value.int .i64 (ar A B C j))
  tab : Tab W
theorem LB.next {w : World} {sb cb : Nat} {p2 : Int} {ao : Option Addr} {n cap : Nat} {po : Option Addr} {k2 pc : Nat} {eo : Option Addr} {m ec : Nat} {V : Int} {so : Option Addr} {t sc : Nat} {K : Int} {xo : Option Addr} {x xc : Nat} {a b : Int} {F T G P L H : Nat → Int} {S : Nat → ByteArray} {A B C : Nat → Int} {W W' : World} (h : LB w sb cb p2 ao n cap po k2 pc eo m ec V so t sc K xo x xc a b F T G P L H S A B C W) (hb : Below W.heap.size W W') : LB w sb cb p2 ao n cap po k2 pc eo m ec V so t sc K xo x xc a b F T G P L H S A B C W' :=
  ⟨below_next h.bel nl hb, h.sB.next hb, h.cB.next hb, h.M.next hb, h.X.next hb, h.tab.below hb nl⟩

set_option maxRecDepth 100000 in
set_option maxHeartbeats 8000000 in
theorem lawSvs_walk (bo : Option Addr) (bn bc : Nat) (hbn : bn ≤ maxLen) (w : World) (hr : ByRow w w.heap.size bo bn) (hV : Tab w) :
    Calls Tryz.prog 3 #[.slice bo bn bc] w fun e w' => e = .returned (.bool true) ∧ Below w.heap.size w w' := by
  unfold maxLen at hbn
  have HBg := fun W => big_any bo bn bc (by omega) W
  by_cases hbig : 4096 < bn
  · simp only [hbig, decide_true] at HBg
    go_enter Tryz.func3, Tryz.ntmps3
    go_wp2_with fail
    refine (HBg _).mono ?_
    rintro e w0 ⟨rfl, hq⟩
    have hq' := hq.symm
    subst hq'
    clear hq
    go_wp2
    go_ret
    exact ⟨rfl, Below.refl _ _⟩
  simp only [hbig, decide_false] at HBg
  have hn4 : bn ≤ 4096 := by omega
  go_enter Tryz.func3, Tryz.ntmps3
  go_wp2_with fail
  refine (HBg _).mono ?_
  rintro e w0 ⟨rfl, hq⟩
  have hq' := hq.symm
  subst hq'
  clear hq HBg
  go_wp2_with fail
  refine (drawApply_any bo bn bc hn4 _ hr).mono ?_
  rintro e w1 ⟨p2, ao, n, cap, po, k2, pc, eo, m, ec, V, so, t, sc, K, xo, x, xc, a, b, rfl, ⟨ht, hx⟩, ⟨F, T, G, P, L, H, S, hM⟩, ⟨A, B, C, hX⟩, hA1⟩
  have hB : LB w w1.heap.size (w1.heap.size + 1) p2 ao n cap po k2 pc eo m ec V so t sc K xo x xc a b F T G P L H S A B C ((w1.alloc (.cells #[.int .i64 p2, .slice ao n cap, .slice po k2 pc, .slice eo m ec, .int .i64 V, .slice so t sc] 33)).alloc (.cells #[.int .i64 K, .slice xo x xc, .int .i64 a, .int .i64 b] 35)) := by
    have h1 := (Below.refl w1.heap.size w1).alloc nl (.cells #[.int .i64 p2, .slice ao n cap, .slice po k2 pc, .slice eo m ec, .int .i64 V, .slice so t sc] 33)
    have h2 := (Below.refl (w1.alloc (.cells #[.int .i64 p2, .slice ao n cap, .slice po k2 pc, .slice eo m ec, .int .i64 V, .slice so t sc] 33)).heap.size (w1.alloc (.cells #[.int .i64 p2, .slice ao n cap, .slice po k2 pc, .slice eo m ec, .int .i64 V, .slice so t sc] 33))).alloc nl (.cells #[.int .i64 K, .slice xo x xc, .int .i64 a, .int .i64 b] 35)
    refine ⟨below_next (below_next hA1 nl h1) nl h2, (sv6_new w1 p2 (.slice ao n cap) (.slice po k2 pc) (.slice eo m ec) V (.slice so t sc) 33).next h2, ?_, (hM.next h1).next h2, (hX.next h1).next h2, ((hV.below hA1 nl).below h1 nl).below h2 nl⟩
    have := cq4_new (w1.alloc (.cells #[.int .i64 p2, .slice ao n cap, .slice po k2 pc, .slice eo m ec, .int .i64 V, .slice so t sc] 33)) K (.slice xo x xc) a b 35
    rw [World.size_alloc] at this
    exact this
  have hMn := hM.hn
  have hMk := hM.hk
  have hMm := hM.hm
  clear hM hX hA1 hV
  go_wp2_with fail
  generalize ((w1.alloc (.cells #[.int .i64 p2, .slice ao n cap, .slice po k2 pc, .slice eo m ec, .int .i64 V, .slice so t sc] 33)).alloc (.cells #[.int .i64 K, .slice xo x xc, .int .i64 a, .int .i64 b] 35)) = W2 at hB ⊢
  generalize w1.heap.size = sb at hB ⊢
  refine (implApply_any p2 ao n cap F T G po k2 pc P eo m ec L H V so t sc S K a b xo x xc A B C (by omega) (by omega) (by omega) (by omega) (by omega) _ hB.tab hB.M.ra hB.M.ri hB.M.re hB.M.rs hB.X.arcs).mono ?_
  have HAS := fun W h1 h2 h3 h4 h5 => specApply_any p2 ao n cap F T G po k2 pc P eo m ec L H V so t sc S K a b xo x xc A B C (by omega) (by omega) (by omega) (by omega) (by omega) W h1 h2 h3 h4 h5
  obtain ⟨r, hre⟩ : ∃ r, apR p2 n F T G k2 P m L H V t S K x A B C a b = r := ⟨_, rfl⟩
  have HRE : Hid (apR p2 n F T G k2 P m L H V t S K x A B C a b = r) := hre
  obtain ⟨b1, b2, b3, b4⟩ := apR_b p2 n F T G k2 P m L H V t S K x A B C a b
  rw [hre] at HAS b1 b2 b3 b4 ⊢
  clear hre
  rintro e w3 ⟨ax, acx, px, pcx, ex, ecx, sx, scx, rfl, xa, xi, xe, xs, hb3⟩
  have hal3 := (Below.refl w3.heap.size w3).alloc nl (.cells #[.int .i64 r.p, .slice ax r.n acx, .slice px r.k pcx, .slice ex r.m ecx, .int .i64 r.V, .slice sx r.t scx] 33)
  replace hB := (hB.next hb3).next hal3
  have xB := sv6_new w3 r.p (.slice ax r.n acx) (.slice px r.k pcx) (.slice ex r.m ecx) r.V (.slice sx r.t scx) 33
  replace xa := xa.below hal3 nl
  replace xi := xi.below hal3 nl
  replace xe := xe.below hal3 nl
  replace xs := xs.below hal3 nl
  clear hb3 hal3
  obtain ⟨s0, s1, s2, s3, s4, s5⟩ := hB.sB.c6
  obtain ⟨c0, c1, c2, c3⟩ := hB.cB.c4
  simp [sv6, cq4] at s0 s1 s2 s3 s4 s5 c0 c1 c2 c3
  go_wp2_with fail
  clear s0 s1 s2 s3 s4 s5 c0 c1 c2 c3
  generalize (w3.alloc (.cells #[.int .i64 r.p, .slice ax r.n acx, .slice px r.k pcx, .slice ex r.m ecx, .int .i64 r.V, .slice sx r.t scx] 33)) = W3 at hB xB xa xi xe xs ⊢
  generalize w3.heap.size = xb at xB ⊢
  have hd := (Below.refl W3.heap.size W3).drew
  have HS : (fun W => LB w sb (sb + 1) p2 ao n cap po k2 pc eo m ec V so t sc K xo x xc a b F T G P L H S A B C W ∧ VHas W xb 33 6 (sv6 r.p (.slice ax r.n acx) (.slice px r.k pcx) (.slice ex r.m ecx) r.V (.slice sx r.t scx))) W3.drew := ⟨hB.next hd, xB.next hd⟩
  replace xa := xa.below hd nl
  replace xi := xi.below hd nl
  replace xe := xe.below hd nl
  replace xs := xs.below hd nl
  refine wp_region_held_drew (S := fun W => LB w sb (sb + 1) p2 ao n cap po k2 pc eo m ec V so t sc K xo x xc a b F T G P L H S A B C W ∧ VHas W xb 33 6 (sv6 r.p (.slice ax r.n acx) (.slice px r.k pcx) (.slice ex r.m ecx) r.V (.slice sx r.t scx))) (by kernel_rfl) HS (fun hS => ?_)
  generalize W3.drew = W4 at xa xi xe xs HS hS ⊢
  clear hd hB xB HS
  refine tK 0 (some 24) (.agg #[.int .i64 r.p, .slice ax r.n acx, .slice px r.k pcx, .slice ex r.m ecx, .int .i64 r.V, .slice sx r.t scx]) rfl rfl hS (fun w hSw => by have hSa := hSw.1; have hSb := hSw.2; clear hSw; obtain ⟨y0, y1, y2, y3, y4, y5⟩ := hSa.sB.c6; obtain ⟨x0, x1, x2, x3, x4, x5⟩ := hSb.c6; obtain ⟨z0, z1, z2, z3⟩ := hSa.cB.c4; clear hSa hSb; simp [sv6, cq4] at y0 y1 y2 y3 y4 y5 x0 x1 x2 x3 x4 x5 z0 z1 z2 z3; go_split_ands; go_simp <;> first | rfl | omega | (intro h; exfalso; omega) | (simp; done)) ?_
  simp only [pS]
  refine tK 1 (some 25) (.agg #[.int .i64 p2, .slice ao n cap, .slice po k2 pc, .slice eo m ec, .int .i64 V, .slice so t sc]) rfl rfl hS (fun w hSw => by have hSa := hSw.1; have hSb := hSw.2; clear hSw; obtain ⟨y0, y1, y2, y3, y4, y5⟩ := hSa.sB.c6; obtain ⟨x0, x1, x2, x3, x4, x5⟩ := hSb.c6; obtain ⟨z0, z1, z2, z3⟩ := hSa.cB.c4; clear hSa hSb; simp [sv6, cq4] at y0 y1 y2 y3 y4 y5 x0 x1 x2 x3 x4 x5 z0 z1 z2 z3; go_split_ands; go_simp <;> first | rfl | omega | (intro h; exfalso; omega) | (simp; done)) ?_
  simp only [pS]
  refine tK 2 (some 26) (.agg #[.int .i64 K, .slice xo x xc, .int .i64 a, .int .i64 b]) rfl rfl hS (fun w hSw => by have hSa := hSw.1; have hSb := hSw.2; clear hSw; obtain ⟨y0, y1, y2, y3, y4, y5⟩ := hSa.sB.c6; obtain ⟨x0, x1, x2, x3, x4, x5⟩ := hSb.c6; obtain ⟨z0, z1, z2, z3⟩ := hSa.cB.c4; clear hSa hSb; simp [sv6, cq4] at y0 y1 y2 y3 y4 y5 x0 x1 x2 x3 x4 x5 z0 z1 z2 z3; go_split_ands; go_simp <;> first | rfl | omega | (intro h; exfalso; omega) | (simp; done)) ?_
  simp only [pS]
  refine step1H 3 _ rfl (by kernel_rfl) (by rfl) ?_
  go_simp
  refine (HAS _ hS.1.M.ra hS.1.M.ri hS.1.M.re hS.1.M.rs hS.1.X.arcs).mono ?_
  rintro e w5 ⟨ay, acy, py, pcy, ey, ecy, sy, scy, rfl, ya, yi, ye, ys, hb5⟩
  replace hS : (fun W => LB w sb (sb + 1) p2 ao n cap po k2 pc eo m ec V so t sc K xo x xc a b F T G P L H S A B C W ∧ VHas W xb 33 6 (sv6 r.p (.slice ax r.n acx) (.slice px r.k pcx) (.slice ex r.m ecx) r.V (.slice sx r.t scx))) w5 := ⟨hS.1.next hb5, hS.2.next hb5⟩
  replace xa := xa.below hb5 nl
  replace xi := xi.below hb5 nl
  replace xe := xe.below hb5 nl
  replace xs := xs.below hb5 nl
  refine ⟨hS, ?_⟩
  refine step1H 4 _ rfl (by kernel_rfl) (by rfl) ?_
  go_simp
  refine (likeService_same r.p ax r.n acx F T r.G px r.k pcx P ex r.m ecx L H r.V sx r.t scx r.S ay acy py pcy ey ecy sy scy (by omega) (by omega) (by omega) (by omega) _ xa xi xe xs ya yi ye ys).mono ?_
  rintro e w6 ⟨rfl, hb6⟩
  clear ya yi ye ys
  replace hS : (fun W => LB w sb (sb + 1) p2 ao n cap po k2 pc eo m ec V so t sc K xo x xc a b F T G P L H S A B C W ∧ VHas W xb 33 6 (sv6 r.p (.slice ax r.n acx) (.slice px r.k pcx) (.slice ex r.m ecx) r.V (.slice sx r.t scx))) w6 := ⟨hS.1.next hb6, hS.2.next hb6⟩
  replace xa := xa.below hb6 nl
  replace xi := xi.below hb6 nl
  replace xe := xe.below hb6 nl
  replace xs := xs.below hb6 nl
  refine ⟨hS, ?_⟩
  refine tK 5 (some 29) (.bool false) rfl rfl hS (fun w hSw => by have hSa := hSw.1; have hSb := hSw.2; clear hSw; obtain ⟨y0, y1, y2, y3, y4, y5⟩ := hSa.sB.c6; obtain ⟨x0, x1, x2, x3, x4, x5⟩ := hSb.c6; obtain ⟨z0, z1, z2, z3⟩ := hSa.cB.c4; clear hSa hSb; simp [sv6, cq4] at y0 y1 y2 y3 y4 y5 x0 x1 x2 x3 x4 x5 z0 z1 z2 z3; go_split_ands; go_simp <;> first | rfl | omega | (intro h; exfalso; omega) | (simp; done)) ?_
  simp only [pS]
  refine tK 6 (some 30) (.bool false) rfl rfl hS (fun w hSw => by have hSa := hSw.1; have hSb := hSw.2; clear hSw; obtain ⟨y0, y1, y2, y3, y4, y5⟩ := hSa.sB.c6; obtain ⟨x0, x1, x2, x3, x4, x5⟩ := hSb.c6; obtain ⟨z0, z1, z2, z3⟩ := hSa.cB.c4; clear hSa hSb; simp [sv6, cq4] at y0 y1 y2 y3 y4 y5 x0 x1 x2 x3 x4 x5 z0 z1 z2 z3; go_split_ands; go_simp <;> first | rfl | omega | (intro h; exfalso; omega) | (simp; done)) ?_
  simp only [pS]
  refine tK 7 (some 31) (.agg #[.int .i64 p2, .slice ao n cap, .slice po k2 pc, .slice eo m ec, .int .i64 V, .slice so t sc]) rfl rfl hS (fun w hSw => by have hSa := hSw.1; have hSb := hSw.2; clear hSw; obtain ⟨y0, y1, y2, y3, y4, y5⟩ := hSa.sB.c6; obtain ⟨x0, x1, x2, x3, x4, x5⟩ := hSb.c6; obtain ⟨z0, z1, z2, z3⟩ := hSa.cB.c4; clear hSa hSb; simp [sv6, cq4] at y0 y1 y2 y3 y4 y5 x0 x1 x2 x3 x4 x5 z0 z1 z2 z3; go_split_ands; go_simp <;> first | rfl | omega | (intro h; exfalso; omega) | (simp; done)) ?_
  simp only [pS]
  refine tK 9 (some 33) (.agg #[.int .i64 p2, .slice ao n cap, .slice po k2 pc, .slice eo m ec, .int .i64 V, .slice so t sc]) rfl rfl hS (fun w hSw => by have hSa := hSw.1; have hSb := hSw.2; clear hSw; obtain ⟨y0, y1, y2, y3, y4, y5⟩ := hSa.sB.c6; obtain ⟨x0, x1, x2, x3, x4, x5⟩ := hSb.c6; obtain ⟨z0, z1, z2, z3⟩ := hSa.cB.c4; clear hSa hSb; simp [sv6, cq4] at y0 y1 y2 y3 y4 y5 x0 x1 x2 x3 x4 x5 z0 z1 z2 z3; go_split_ands; go_simp <;> first | rfl | omega | (intro h; exfalso; omega) | (simp; done)) ?_
  simp only [pS]
  refine step1H 8 _ rfl (by kernel_rfl) (by rfl) ?_
  go_simp
  refine (implServiceOk_any p2 ao n cap F T G po k2 pc P eo m ec L H V so t sc S (by omega) (by omega) (by omega) (by omega) _ hS.1.M.ra hS.1.M.ri hS.1.M.re).mono ?_
  rintro e w7 ⟨⟨bb, rfl, hbb⟩, hb7⟩
  have HBB : Hid (bb = true ↔ SOk p2 n F T G k2 P m L H V t) := hbb
  clear hbb
  replace hS : (fun W => LB w sb (sb + 1) p2 ao n cap po k2 pc eo m ec V so t sc K xo x xc a b F T G P L H S A B C W ∧ VHas W xb 33 6 (sv6 r.p (.slice ax r.n acx) (.slice px r.k pcx) (.slice ex r.m ecx) r.V (.slice sx r.t scx))) w7 := ⟨hS.1.next hb7, hS.2.next hb7⟩
  replace xa := xa.below hb7 nl
  replace xi := xi.below hb7 nl
  replace xe := xe.below hb7 nl
  replace xs := xs.below hb7 nl
  refine ⟨hS, ?_⟩
  refine step1H 10 _ rfl (by kernel_rfl) (by rfl) ?_
  go_simp
  refine (specServiceOk_any p2 ao n cap F T G po k2 pc P eo m ec L H V so t sc S (by omega) (by omega) (by omega) (by omega) _ hS.1.M.ra hS.1.M.ri hS.1.M.re).mono ?_
  rintro e w8 ⟨⟨bb2, rfl, hbb⟩, hb8⟩
  obtain rfl : bb2 = bb := by
    have h1 := hbb.trans HBB.out.symm
    cases bb <;> cases bb2 <;> simp_all
  clear hbb
  replace hS : (fun W => LB w sb (sb + 1) p2 ao n cap po k2 pc eo m ec V so t sc K xo x xc a b F T G P L H S A B C W ∧ VHas W xb 33 6 (sv6 r.p (.slice ax r.n acx) (.slice px r.k pcx) (.slice ex r.m ecx) r.V (.slice sx r.t scx))) w8 := ⟨hS.1.next hb8, hS.2.next hb8⟩
  replace xa := xa.below hb8 nl
  replace xi := xi.below hb8 nl
  replace xe := xe.below hb8 nl
  replace xs := xs.below hb8 nl
  refine ⟨hS, ?_⟩
  refine tK 11 (some 35) (.bool false) rfl rfl hS (fun w hSw => by have hSa := hSw.1; have hSb := hSw.2; clear hSw; obtain ⟨y0, y1, y2, y3, y4, y5⟩ := hSa.sB.c6; obtain ⟨x0, x1, x2, x3, x4, x5⟩ := hSb.c6; obtain ⟨z0, z1, z2, z3⟩ := hSa.cB.c4; clear hSa hSb; simp [sv6, cq4] at y0 y1 y2 y3 y4 y5 x0 x1 x2 x3 x4 x5 z0 z1 z2 z3; go_split_ands; go_simp <;> first | rfl | omega | (intro h; exfalso; omega) | (simp; done)) ?_
  simp only [pS]
  refine tK 12 (some 36) (.bool false) rfl rfl hS (fun w hSw => by have hSa := hSw.1; have hSb := hSw.2; clear hSw; obtain ⟨y0, y1, y2, y3, y4, y5⟩ := hSa.sB.c6; obtain ⟨x0, x1, x2, x3, x4, x5⟩ := hSb.c6; obtain ⟨z0, z1, z2, z3⟩ := hSa.cB.c4; clear hSa hSb; simp [sv6, cq4] at y0 y1 y2 y3 y4 y5 x0 x1 x2 x3 x4 x5 z0 z1 z2 z3; go_split_ands; go_simp <;> first | rfl | omega | (intro h; exfalso; omega) | (simp; done)) ?_
  simp only [pS]
  refine tK 13 (some 37) (.bool false) rfl rfl hS (fun w hSw => by have hSa := hSw.1; have hSb := hSw.2; clear hSw; obtain ⟨y0, y1, y2, y3, y4, y5⟩ := hSa.sB.c6; obtain ⟨x0, x1, x2, x3, x4, x5⟩ := hSb.c6; obtain ⟨z0, z1, z2, z3⟩ := hSa.cB.c4; clear hSa hSb; simp [sv6, cq4] at y0 y1 y2 y3 y4 y5 x0 x1 x2 x3 x4 x5 z0 z1 z2 z3; go_split_ands; go_simp <;> first | rfl | omega | (intro h; exfalso; omega) | (simp; done)) ?_
  simp only [pS]
  refine tK 14 (some 38) (.agg #[.int .i64 K, .slice xo x xc, .int .i64 a, .int .i64 b]) rfl rfl hS (fun w hSw => by have hSa := hSw.1; have hSb := hSw.2; clear hSw; obtain ⟨y0, y1, y2, y3, y4, y5⟩ := hSa.sB.c6; obtain ⟨x0, x1, x2, x3, x4, x5⟩ := hSb.c6; obtain ⟨z0, z1, z2, z3⟩ := hSa.cB.c4; clear hSa hSb; simp [sv6, cq4] at y0 y1 y2 y3 y4 y5 x0 x1 x2 x3 x4 x5 z0 z1 z2 z3; go_split_ands; go_simp <;> first | rfl | omega | (intro h; exfalso; omega) | (simp; done)) ?_
  simp only [pS]
  refine tK 16 (some 40) (.agg #[.int .i64 K, .slice xo x xc, .int .i64 a, .int .i64 b]) rfl rfl hS (fun w hSw => by have hSa := hSw.1; have hSb := hSw.2; clear hSw; obtain ⟨y0, y1, y2, y3, y4, y5⟩ := hSa.sB.c6; obtain ⟨x0, x1, x2, x3, x4, x5⟩ := hSb.c6; obtain ⟨z0, z1, z2, z3⟩ := hSa.cB.c4; clear hSa hSb; simp [sv6, cq4] at y0 y1 y2 y3 y4 y5 x0 x1 x2 x3 x4 x5 z0 z1 z2 z3; go_split_ands; go_simp <;> first | rfl | omega | (intro h; exfalso; omega) | (simp; done)) ?_
  simp only [pS]
  refine step1H 15 _ rfl (by kernel_rfl) (by rfl) ?_
  go_simp
  refine (implCommandOk_any K xo x xc A B C a b (by omega) _ hS.1.X.arcs).mono ?_
  rintro e w9 ⟨rfl, hb9⟩
  replace hS : (fun W => LB w sb (sb + 1) p2 ao n cap po k2 pc eo m ec V so t sc K xo x xc a b F T G P L H S A B C W ∧ VHas W xb 33 6 (sv6 r.p (.slice ax r.n acx) (.slice px r.k pcx) (.slice ex r.m ecx) r.V (.slice sx r.t scx))) w9 := ⟨hS.1.next hb9, hS.2.next hb9⟩
  replace xa := xa.below hb9 nl
  replace xi := xi.below hb9 nl
  replace xe := xe.below hb9 nl
  replace xs := xs.below hb9 nl
  refine ⟨hS, ?_⟩
  refine step1H 17 _ rfl (by kernel_rfl) (by rfl) ?_
  go_simp
  refine (specCommandOk_any K xo x xc A B C a b (by omega) _ hS.1.X.arcs).mono ?_
  rintro e w10 ⟨rfl, hb10⟩
  replace hS : (fun W => LB w sb (sb + 1) p2 ao n cap po k2 pc eo m ec V so t sc K xo x xc a b F T G P L H S A B C W ∧ VHas W xb 33 6 (sv6 r.p (.slice ax r.n acx) (.slice px r.k pcx) (.slice ex r.m ecx) r.V (.slice sx r.t scx))) w10 := ⟨hS.1.next hb10, hS.2.next hb10⟩
  replace xa := xa.below hb10 nl
  replace xi := xi.below hb10 nl
  replace xe := xe.below hb10 nl
  replace xs := xs.below hb10 nl
  refine ⟨hS, ?_⟩
  refine tK 18 (some 42) (.bool false) rfl rfl hS (fun w hSw => by have hSa := hSw.1; have hSb := hSw.2; clear hSw; obtain ⟨y0, y1, y2, y3, y4, y5⟩ := hSa.sB.c6; obtain ⟨x0, x1, x2, x3, x4, x5⟩ := hSb.c6; obtain ⟨z0, z1, z2, z3⟩ := hSa.cB.c4; clear hSa hSb; simp [sv6, cq4] at y0 y1 y2 y3 y4 y5 x0 x1 x2 x3 x4 x5 z0 z1 z2 z3; go_split_ands; go_simp <;> first | rfl | omega | (intro h; exfalso; omega) | (simp; done)) ?_
  simp only [pS]
  refine tK 19 (some 43) (.bool false) rfl rfl hS (fun w hSw => by have hSa := hSw.1; have hSb := hSw.2; clear hSw; obtain ⟨y0, y1, y2, y3, y4, y5⟩ := hSa.sB.c6; obtain ⟨x0, x1, x2, x3, x4, x5⟩ := hSb.c6; obtain ⟨z0, z1, z2, z3⟩ := hSa.cB.c4; clear hSa hSb; simp [sv6, cq4] at y0 y1 y2 y3 y4 y5 x0 x1 x2 x3 x4 x5 z0 z1 z2 z3; go_split_ands; go_simp <;> first | rfl | omega | (intro h; exfalso; omega) | (simp; done)) ?_
  simp only [pS]
  refine wpAnyH_done (by kernel_rfl) ?_ _
  have HB := hS.1
  have HX := hS.2
  clear hS
  go_wp2_with fail
  refine (drawAnswer_any bo bn bc hn4 _ (hr.up HB.bel)).mono ?_
  rintro e w11 ⟨p9, g9, k9, c9, a9, d9, rfl, hk9, ⟨F9, T9, G9, hr9⟩, hb11⟩
  have hal11 := (Below.refl w11.heap.size w11).alloc nl (.cells #[.int .i64 p9, .slice g9 k9 c9] 26)
  replace HB := (HB.next hb11).next hal11
  replace HX := (HX.next hb11).next hal11
  replace xa := (xa.below hb11 nl).below hal11 nl
  replace xi := (xi.below hb11 nl).below hal11 nl
  replace xe := (xe.below hb11 nl).below hal11 nl
  replace xs := (xs.below hb11 nl).below hal11 nl
  replace hr9 := hr9.below hal11 nl
  have gB := gb2_new w11 p9 (.slice g9 k9 c9) 26
  obtain ⟨g0, g1⟩ := gB.c2
  simp [gb2] at g0 g1
  clear hb11 hal11
  go_wp2_with fail
  clear g0 g1
  generalize (w11.alloc (.cells #[.int .i64 p9, .slice g9 k9 c9] 26)) = W12 at HB HX xa xi xe xs hr9 gB ⊢
  generalize w11.heap.size = gb at gB ⊢
  have hd := (Below.refl W12.heap.size W12).drew
  replace HB := HB.next hd
  replace HX := HX.next hd
  replace xa := xa.below hd nl
  replace xi := xi.below hd nl
  replace xe := xe.below hd nl
  replace xs := xs.below hd nl
  replace hr9 := hr9.below hd nl
  replace gB := gB.next hd
  refine wp_region_held_drew (S := fun W => VHas W gb 26 2 (gb2 p9 (.slice g9 k9 c9))) (by kernel_rfl) gB (fun hS => ?_)
  generalize W12.drew = W13 at HB HX xa xi xe xs hr9 gB hS ⊢
  clear hd gB
  refine tK 0 (some 50) (.agg #[.int .i64 p9, .slice g9 k9 c9]) rfl rfl hS (fun w hSw => by obtain ⟨y0, y1⟩ := hSw.c2; simp [gb2] at y0 y1; go_split_ands; go_simp <;> first | rfl | omega | (intro h; exfalso; omega) | (simp; done)) ?_
  simp only [pS]
  refine tK 1 (some 51) (.int .i64 a9) rfl rfl hS (fun w hSw => by obtain ⟨y0, y1⟩ := hSw.c2; simp [gb2] at y0 y1; go_split_ands; go_simp <;> first | rfl | omega | (intro h; exfalso; omega) | (simp; done)) ?_
  simp only [pS]
  refine tK 2 (some 52) (.int .i64 d9) rfl rfl hS (fun w hSw => by obtain ⟨y0, y1⟩ := hSw.c2; simp [gb2] at y0 y1; go_split_ands; go_simp <;> first | rfl | omega | (intro h; exfalso; omega) | (simp; done)) ?_
  simp only [pS]
  refine tK 4 (some 54) (.agg #[.int .i64 p9, .slice g9 k9 c9]) rfl rfl hS (fun w hSw => by obtain ⟨y0, y1⟩ := hSw.c2; simp [gb2] at y0 y1; go_split_ands; go_simp <;> first | rfl | omega | (intro h; exfalso; omega) | (simp; done)) ?_
  simp only [pS]
  refine tK 5 (some 55) (.int .i64 a9) rfl rfl hS (fun w hSw => by obtain ⟨y0, y1⟩ := hSw.c2; simp [gb2] at y0 y1; go_split_ands; go_simp <;> first | rfl | omega | (intro h; exfalso; omega) | (simp; done)) ?_
  simp only [pS]
  refine tK 6 (some 56) (.int .i64 d9) rfl rfl hS (fun w hSw => by obtain ⟨y0, y1⟩ := hSw.c2; simp [gb2] at y0 y1; go_split_ands; go_simp <;> first | rfl | omega | (intro h; exfalso; omega) | (simp; done)) ?_
  simp only [pS]
  refine step1H 3 _ rfl (by kernel_rfl) (by rfl) ?_
  go_simp
  refine (implAnswer_any p9 g9 k9 c9 F9 T9 G9 a9 d9 (by omega) _ HB.tab hr9).mono ?_
  rintro e w14 ⟨rfl, hb14⟩
  replace hS := VHas.next hS hb14
  replace HB := HB.next hb14
  replace HX := HX.next hb14
  replace xa := xa.below hb14 nl
  replace xi := xi.below hb14 nl
  replace xe := xe.below hb14 nl
  replace xs := xs.below hb14 nl
  replace hr9 := hr9.below hb14 nl
  refine ⟨hS, ?_⟩
  refine step1H 7 _ rfl (by kernel_rfl) (by rfl) ?_
  go_simp
  refine (specAnswer_any p9 g9 k9 c9 F9 T9 G9 a9 d9 (by omega) _ hr9).mono ?_
  rintro e w15 ⟨rfl, hb15⟩
  replace hS := VHas.next hS hb15
  replace HB := HB.next hb15
  replace HX := HX.next hb15
  replace xa := xa.below hb15 nl
  replace xi := xi.below hb15 nl
  replace xe := xe.below hb15 nl
  replace xs := xs.below hb15 nl
  replace hr9 := hr9.below hb15 nl
  refine ⟨hS, ?_⟩
  refine tK 8 (some 58) (.bool false) rfl rfl hS (fun w hSw => by obtain ⟨y0, y1⟩ := hSw.c2; simp [gb2] at y0 y1; go_split_ands; go_simp <;> first | rfl | omega | (intro h; exfalso; omega) | (simp; done)) ?_
  simp only [pS]
  refine wpAnyH_done (by kernel_rfl) ?_ _
  obtain ⟨g0, g1⟩ := hS.c2
  simp [gb2] at g0 g1
  obtain ⟨p8, n8, M8, D8, N8, L8, H8, ok8, hres8, hn8, hM8, hN8⟩ := isSv_ex p9 k9 F9 T9 G9 (by omega)
  have HNI := fun W h => implNewService_any p9 g9 k9 c9 F9 T9 G9 (by omega) W h p8 n8 M8 N8 D8 L8 H8 ok8 hres8
  have HNS := fun W h => specNewService_any p9 g9 k9 c9 F9 T9 G9 (by omega) W h p8 n8 M8 N8 D8 L8 H8 ok8 hres8
  clear hres8
  go_wp2_with fail
  clear g0 g1
  refine (HNI _ hr9).mono ?_
  rintro e w16 ⟨an, acn, pn, pcn, en, ecn, d8, b8, c8, rfl, hL8, hbd8, hb16⟩
  have hal16 := (Below.refl w16.heap.size w16).alloc nl (.cells #[.int .i64 p8, .slice an n8 acn, .slice pn M8 pcn, .slice en N8 ecn, .int .i64 0, .slice none 0 0] 33)
  replace hS := VHas.next hS hb16
  replace HB := HB.next hb16
  replace HX := HX.next hb16
  replace xa := xa.below hb16 nl
  replace xi := xi.below hb16 nl
  replace xe := xe.below hb16 nl
  replace xs := xs.below hb16 nl
  replace hr9 := hr9.below hb16 nl
  replace hS := VHas.next hS hal16
  replace HB := HB.next hal16
  replace HX := HX.next hal16
  replace xa := xa.below hal16 nl
  replace xi := xi.below hal16 nl
  replace xe := xe.below hal16 nl
  replace xs := xs.below hal16 nl
  replace hr9 := hr9.below hal16 nl
  replace hL8 := hL8.next hal16
  have nB := sv6_new w16 p8 (.slice an n8 acn) (.slice pn M8 pcn) (.slice en N8 ecn) 0 (.slice none 0 0) 33
  clear hb16 hal16 hbd8 HNI
  obtain ⟨g0, g1⟩ := hS.c2
  simp [gb2] at g0 g1
  go_wp2_with fail
  clear g0 g1
  generalize (w16.alloc (.cells #[.int .i64 p8, .slice an n8 acn, .slice pn M8 pcn, .slice en N8 ecn, .int .i64 0, .slice none 0 0] 33)) = W16 at HB HX xa xi xe xs hr9 hS hL8 nB ⊢
  generalize w16.heap.size = nb at nB ⊢
  refine (HNS _ hr9).mono ?_
  rintro e w17 ⟨am, acm, pm, pcm, em, ecm, d7, b7, c7, rfl, hL7, hbd7, hb17⟩
  have hal17 := (Below.refl w17.heap.size w17).alloc nl (.cells #[.int .i64 p8, .slice am n8 acm, .slice pm M8 pcm, .slice em N8 ecm, .int .i64 0, .slice none 0 0] 33)
  replace hS := VHas.next hS hb17
  replace HB := HB.next hb17
  replace HX := HX.next hb17
  replace xa := xa.below hb17 nl
  replace xi := xi.below hb17 nl
  replace xe := xe.below hb17 nl
  replace xs := xs.below hb17 nl
  replace hr9 := hr9.below hb17 nl
  replace hL8 := hL8.next hb17
  replace nB := nB.next hb17
  replace hS := VHas.next hS hal17
  replace HB := HB.next hal17
  replace HX := HX.next hal17
  replace xa := xa.below hal17 nl
  replace xi := xi.below hal17 nl
  replace xe := xe.below hal17 nl
  replace xs := xs.below hal17 nl
  replace hr9 := hr9.below hal17 nl
  replace hL8 := hL8.next hal17
  replace nB := nB.next hal17
  replace hL7 := hL7.next hal17
  have mB := sv6_new w17 p8 (.slice am n8 acm) (.slice pm M8 pcm) (.slice em N8 ecm) 0 (.slice none 0 0) 33
  clear hb17 hal17 hbd7 HNS hr9 hS
  have n0 := nB.cell (j := 0) (by omega)
  have m0 := mB.cell (j := 0) (by omega)
  have n1 := nB.cell (j := 1) (by omega)
  have m1 := mB.cell (j := 1) (by omega)
  have n2 := nB.cell (j := 2) (by omega)
  have m2 := mB.cell (j := 2) (by omega)
  have n3 := nB.cell (j := 3) (by omega)
  have m3 := mB.cell (j := 3) (by omega)
  have n4 := nB.cell (j := 4) (by omega)
  have m4 := mB.cell (j := 4) (by omega)
  have n5 := nB.cell (j := 5) (by omega)
  have m5 := mB.cell (j := 5) (by omega)
  simp [sv6] at n0 n1 n2 n3 n4 n5 m0 m1 m2 m3 m4 m5
  go_wp2_with fail
  clear n0 n1 n2 n3 n4 n5 m0 m1 m2 m3 m4 m5 nB
  generalize (w17.alloc (.cells #[.int .i64 p8, .slice am n8 acm, .slice pm M8 pcm, .slice em N8 ecm, .int .i64 0, .slice none 0 0] 33)) = W17 at HB HX xa xi xe xs hL8 hL7 mB ⊢
  refine (likeService_same p8 an n8 acn F9 T9 G9 pn M8 pcn D8 en N8 ecn L8 H8 0 none 0 0 (fun _ => default) am acm pm pcm em ecm none 0 (by omega) (by omega) (by omega) (by omega) _ hL8.ra hL8.ri hL8.re (fun j hj => by omega) hL7.ra hL7.ri hL7.re (fun j hj => by omega)).mono ?_
  rintro e w18 ⟨rfl, hb18⟩
  replace HB := HB.next hb18
  replace HX := HX.next hb18
  replace xa := xa.below hb18 nl
  replace xi := xi.below hb18 nl
  replace xe := xe.below hb18 nl
  replace xs := xs.below hb18 nl
  clear hb18 hL8 hL7 mB
  obtain ⟨x0, x1, x2, x3, x4, x5⟩ := HX.c6
  simp [sv6] at x0 x1 x2 x3 x4 x5
  obtain ⟨s0, s1, s2, s3, s4, s5⟩ := HB.sB.c6
  obtain ⟨c0, c1, c2, c3⟩ := HB.cB.c4
  simp [sv6, cq4] at s0 s1 s2 s3 s4 s5 c0 c1 c2 c3
  have HC := apR_cases p2 n F T G k2 P m L H V t S K x A B C a b r HRE.out
  have hend : ∀ W', Below w18.heap.size w18 W' → Below w.heap.size w W' := fun W' h => below_next HB.bel nl h
  by_cases hz : r.n = 0 ∧ r.p = 0
  · rw [hz.2] at x0
    rw [hz.1] at x1
    clear HRE HC HX HB
    go_wp2
    go_ret
    exact ⟨rfl, hend _ (Below.refl _ _)⟩
  clear HRE
  rcases HC with hq | ⟨rfl, rfl⟩ | ⟨rfl, ht1, hp1, hn1, hG1, hV1⟩ | ⟨rfl, ht1, hS1, hok1⟩
  · exact absurd ⟨hq.2, hq.1⟩ hz
  · simp only at x0 x1 x2 x3 x4 x5 hz xa xi xe xs HX
    have HL := fun W xa xi xe xs ra ri re rs => likeService_same p2 ax n acx F T G px k2 pcx P ex m ecx L H V sx t scx S ao cap po pc eo ec so sc (by omega) (by omega) (by omega) (by omega) W xa xi xe xs ra ri re rs
    by_cases hn0 : n = 0
    · subst hn0
      have hp0 : ¬ p2 = 0 := fun h => hz ⟨rfl, h⟩
      go_wp2_with fail
      refine (HL _ xa xi xe xs HB.M.ra HB.M.ri HB.M.re HB.M.rs).mono ?_
      rintro e w19 ⟨rfl, hb19⟩
      go_wp2
      go_ret
      exact ⟨rfl, hend _ hb19⟩
    · go_wp2_with fail
      refine (HL _ xa xi xe xs HB.M.ra HB.M.ri HB.M.re HB.M.rs).mono ?_
      rintro e w19 ⟨rfl, hb19⟩
      go_wp2
      go_ret
      exact ⟨rfl, hend _ hb19⟩
  · obtain ⟨rp, rn, rG, rk, rm, rV, rt, rS⟩ := r
    simp only at ht1 hp1 hn1 hG1 hV1 x0 x1 x2 x3 x4 x5 hz xa xi xe xs HX
    subst ht1 hp1 hn1 hG1 hV1
    have HL := fun W ra ra' => likeGraph_same rp ax ao rn acx cap F T rG (by omega) W ra ra'
    by_cases hn0 : rn = 0
    · subst hn0
      have hp0 : ¬ rp = 0 := fun h => hz ⟨rfl, h⟩
      go_wp2_with fail
      refine (HL _ xa HB.M.ra).mono ?_
      rintro e w19 ⟨rfl, hb19⟩
      clear x0 x1 x2 x3 x4 x5 s0 s1 s2 s3 s4 s5
      have x4 := (HX.next hb19).cell (j := 4) (by omega)
      have s4 := (HB.next hb19).sB.cell (j := 4) (by omega)
      simp [sv6] at x4 s4
      go_wp2
      go_ret
      exact ⟨rfl, hend _ hb19⟩
    · go_wp2_with fail
      refine (HL _ xa HB.M.ra).mono ?_
      rintro e w19 ⟨rfl, hb19⟩
      clear x0 x1 x2 x3 x4 x5 s0 s1 s2 s3 s4 s5
      have x4 := (HX.next hb19).cell (j := 4) (by omega)
      have s4 := (HB.next hb19).sB.cell (j := 4) (by omega)
      simp [sv6] at x4 s4
      go_wp2
      go_ret
      exact ⟨rfl, hend _ hb19⟩
  · obtain ⟨rp, rn, rG, rk, rm, rV, rt, rS⟩ := r
    simp only at ht1 hS1 hok1 x0 x1 x2 x3 x4 x5 hz xa xi xe xs HX
    subst ht1
    obtain ⟨sB, sO, rfl, xsc⟩ := xs t (by omega)
    have HOK1 : Hid (SOk rp rn F T rG rk P rm L H rV (t + 1)) := hok1
    obtain ⟨bN, hNo, hVe⟩ : ∃ bN : Bool, ((rS t).toList == [110, 111]) = bN ∧ (rV == V) = bN := by
      rcases hS1 with ⟨h1, h2⟩ | ⟨h1, h2⟩
      · exact ⟨true, by rw [h1, ByteArray.toList_eq]; rfl, by simp [h2]⟩
      · refine ⟨false, ?_, by simpa using h2⟩
        rw [beq_eq_false_iff_ne]
        intro q
        apply h1
        apply bytes_inj
        rw [← ByteArray.toList_eq, q]
    have hwt : IntKind.i64.wrap ((t : Int) + 1) = (t : Int) + 1 := by rw [IntKind.wrap_i64]; omega
    clear hS1 hok1
    by_cases hn0 : rn = 0
    · subst hn0
      have hp0 : ¬ rp = 0 := fun h => hz ⟨rfl, h⟩
      go_wp2_with fail
      clear x0 x1 x2 x3 x4 x5 s0 s1 s2 s3 s4 s5 c0 c1 c2 c3
      have hd := (Below.refl w18.heap.size w18).drew
      have xsd := xsc
      have HS : (fun W => LB w sb (sb + 1) p2 ao n cap po k2 pc eo m ec V so t sc 2 xo x xc a b F T G P L H S A B C W ∧ VHas W xb 33 6 (sv6 rp (.slice ax 0 acx) (.slice px rk pcx) (.slice ex rm ecx) rV (.slice (some ⟨sB, sO, none⟩) (t + 1) scx)) ∧ W.cell? ⟨sB, sO + t, none⟩ = some (.string (rS t))) w18.drew := ⟨HB.next hd, HX.next hd, keep_cell hd nl xsc⟩
      have hE4 := hend _ hd
      clear hend
      replace xa := xa.below hd nl
      replace xi := xi.below hd nl
      replace xe := xe.below hd nl
      refine wp_region_held_drew (S := fun W => LB w sb (sb + 1) p2 ao n cap po k2 pc eo m ec V so t sc 2 xo x xc a b F T G P L H S A B C W ∧ VHas W xb 33 6 (sv6 rp (.slice ax 0 acx) (.slice px rk pcx) (.slice ex rm ecx) rV (.slice (some ⟨sB, sO, none⟩) (t + 1) scx)) ∧ W.cell? ⟨sB, sO + t, none⟩ = some (.string (rS t))) (by kernel_rfl) HS (fun hS => ?_)
      generalize w18.drew = W20 at xa xi xe HS hS hE4 ⊢
      clear hd HB HX HS xsc xsd xs
      refine tK 0 (some 121) (.pointer (some ⟨xb, 5, none⟩)) rfl rfl hS (fun w hSw => by have hSa := hSw.1; have hSb := hSw.2.1; have hSc := hSw.2.2; clear hSw; obtain ⟨y0, y1, y2, y3, y4, y5⟩ := hSa.sB.c6; obtain ⟨x0, x1, x2, x3, x4, x5⟩ := hSb.c6; clear hSa hSb; simp [sv6, cq4] at y0 y1 y2 y3 y4 y5 x0 x1 x2 x3 x4 x5; go_split_ands; go_simp <;> first | rfl | omega | (intro h; exfalso; omega) | exact hwt | exact hNo | (simp [hNo, hVe]; done) | (simp; done)) ?_
      simp only [pS]
      refine tK 1 (some 122) (.slice (some ⟨sB, sO, none⟩) (t + 1) scx) rfl rfl hS (fun w hSw => by have hSa := hSw.1; have hSb := hSw.2.1; have hSc := hSw.2.2; clear hSw; obtain ⟨y0, y1, y2, y3, y4, y5⟩ := hSa.sB.c6; obtain ⟨x0, x1, x2, x3, x4, x5⟩ := hSb.c6; clear hSa hSb; simp [sv6, cq4] at y0 y1 y2 y3 y4 y5 x0 x1 x2 x3 x4 x5; go_split_ands; go_simp <;> first | rfl | omega | (intro h; exfalso; omega) | exact hwt | exact hNo | (simp [hNo, hVe]; done) | (simp; done)) ?_
      simp only [pS]
      refine tK 2 (some 123) (.int .i64 ((t : Int) + 1)) rfl rfl hS (fun w hSw => by have hSa := hSw.1; have hSb := hSw.2.1; have hSc := hSw.2.2; clear hSw; obtain ⟨y0, y1, y2, y3, y4, y5⟩ := hSa.sB.c6; obtain ⟨x0, x1, x2, x3, x4, x5⟩ := hSb.c6; clear hSa hSb; simp [sv6, cq4] at y0 y1 y2 y3 y4 y5 x0 x1 x2 x3 x4 x5; go_split_ands; go_simp <;> first | rfl | omega | (intro h; exfalso; omega) | exact hwt | exact hNo | (simp [hNo, hVe]; done) | (simp; done)) ?_
      simp only [pS]
      refine tK 3 (some 124) (.int .i64 ↑t) rfl rfl hS (fun w hSw => by have hSa := hSw.1; have hSb := hSw.2.1; have hSc := hSw.2.2; clear hSw; obtain ⟨y0, y1, y2, y3, y4, y5⟩ := hSa.sB.c6; obtain ⟨x0, x1, x2, x3, x4, x5⟩ := hSb.c6; clear hSa hSb; simp [sv6, cq4] at y0 y1 y2 y3 y4 y5 x0 x1 x2 x3 x4 x5; go_split_ands; go_simp <;> first | rfl | omega | (intro h; exfalso; omega) | exact hwt | exact hNo | (simp [hNo, hVe]; done) | (simp; done)) ?_
      simp only [pS]
      refine tK 4 (some 125) (.int .i64 ((t : Int) + 1)) rfl rfl hS (fun w hSw => by have hSa := hSw.1; have hSb := hSw.2.1; have hSc := hSw.2.2; clear hSw; obtain ⟨y0, y1, y2, y3, y4, y5⟩ := hSa.sB.c6; obtain ⟨x0, x1, x2, x3, x4, x5⟩ := hSb.c6; clear hSa hSb; simp [sv6, cq4] at y0 y1 y2 y3 y4 y5 x0 x1 x2 x3 x4 x5; go_split_ands; go_simp <;> first | rfl | omega | (intro h; exfalso; omega) | exact hwt | exact hNo | (simp [hNo, hVe]; done) | (simp; done)) ?_
      simp only [pS]
      refine tK 5 (some 126) (.bool true) rfl rfl hS (fun w hSw => by have hSa := hSw.1; have hSb := hSw.2.1; have hSc := hSw.2.2; clear hSw; obtain ⟨y0, y1, y2, y3, y4, y5⟩ := hSa.sB.c6; obtain ⟨x0, x1, x2, x3, x4, x5⟩ := hSb.c6; clear hSa hSb; simp [sv6, cq4] at y0 y1 y2 y3 y4 y5 x0 x1 x2 x3 x4 x5; go_split_ands; go_simp <;> first | rfl | omega | (intro h; exfalso; omega) | exact hwt | exact hNo | (simp [hNo, hVe]; done) | (simp; done)) ?_
      simp only [pS]
      refine tK 6 (some 127) (.bool true) rfl rfl hS (fun w hSw => by have hSa := hSw.1; have hSb := hSw.2.1; have hSc := hSw.2.2; clear hSw; obtain ⟨y0, y1, y2, y3, y4, y5⟩ := hSa.sB.c6; obtain ⟨x0, x1, x2, x3, x4, x5⟩ := hSb.c6; clear hSa hSb; simp [sv6, cq4] at y0 y1 y2 y3 y4 y5 x0 x1 x2 x3 x4 x5; go_split_ands; go_simp <;> first | rfl | omega | (intro h; exfalso; omega) | exact hwt | exact hNo | (simp [hNo, hVe]; done) | (simp; done)) ?_
      simp only [pS]
      refine tK 7 (some 128) (.pointer (some ⟨xb, 5, none⟩)) rfl rfl hS (fun w hSw => by have hSa := hSw.1; have hSb := hSw.2.1; have hSc := hSw.2.2; clear hSw; obtain ⟨y0, y1, y2, y3, y4, y5⟩ := hSa.sB.c6; obtain ⟨x0, x1, x2, x3, x4, x5⟩ := hSb.c6; clear hSa hSb; simp [sv6, cq4] at y0 y1 y2 y3 y4 y5 x0 x1 x2 x3 x4 x5; go_split_ands; go_simp <;> first | rfl | omega | (intro h; exfalso; omega) | exact hwt | exact hNo | (simp [hNo, hVe]; done) | (simp; done)) ?_
      simp only [pS]
      refine tK 8 (some 129) (.slice (some ⟨sB, sO, none⟩) (t + 1) scx) rfl rfl hS (fun w hSw => by have hSa := hSw.1; have hSb := hSw.2.1; have hSc := hSw.2.2; clear hSw; obtain ⟨y0, y1, y2, y3, y4, y5⟩ := hSa.sB.c6; obtain ⟨x0, x1, x2, x3, x4, x5⟩ := hSb.c6; clear hSa hSb; simp [sv6, cq4] at y0 y1 y2 y3 y4 y5 x0 x1 x2 x3 x4 x5; go_split_ands; go_simp <;> first | rfl | omega | (intro h; exfalso; omega) | exact hwt | exact hNo | (simp [hNo, hVe]; done) | (simp; done)) ?_
      simp only [pS]
      refine tK 9 (some 130) (.int .i64 ↑t) rfl rfl hS (fun w hSw => by have hSa := hSw.1; have hSb := hSw.2.1; have hSc := hSw.2.2; clear hSw; obtain ⟨y0, y1, y2, y3, y4, y5⟩ := hSa.sB.c6; obtain ⟨x0, x1, x2, x3, x4, x5⟩ := hSb.c6; clear hSa hSb; simp [sv6, cq4] at y0 y1 y2 y3 y4 y5 x0 x1 x2 x3 x4 x5; go_split_ands; go_simp <;> first | rfl | omega | (intro h; exfalso; omega) | exact hwt | exact hNo | (simp [hNo, hVe]; done) | (simp; done)) ?_
      simp only [pS]
      refine tK 10 (some 131) (.pointer (some ⟨sB, sO + t, none⟩)) rfl rfl hS (fun w hSw => by have hSa := hSw.1; have hSb := hSw.2.1; have hSc := hSw.2.2; clear hSw; obtain ⟨y0, y1, y2, y3, y4, y5⟩ := hSa.sB.c6; obtain ⟨x0, x1, x2, x3, x4, x5⟩ := hSb.c6; clear hSa hSb; simp [sv6, cq4] at y0 y1 y2 y3 y4 y5 x0 x1 x2 x3 x4 x5; go_split_ands; go_simp <;> first | rfl | omega | (intro h; exfalso; omega) | exact hwt | exact hNo | (simp [hNo, hVe]; done) | (simp; done)) ?_
      simp only [pS]
      refine tK 11 (some 132) (.string (rS t)) rfl rfl hS (fun w hSw => by have hSa := hSw.1; have hSb := hSw.2.1; have hSc := hSw.2.2; clear hSw; obtain ⟨y0, y1, y2, y3, y4, y5⟩ := hSa.sB.c6; obtain ⟨x0, x1, x2, x3, x4, x5⟩ := hSb.c6; clear hSa hSb; simp [sv6, cq4] at y0 y1 y2 y3 y4 y5 x0 x1 x2 x3 x4 x5; go_split_ands; go_simp <;> first | rfl | omega | (intro h; exfalso; omega) | exact hwt | exact hNo | (simp [hNo, hVe]; done) | (simp; done)) ?_
      simp only [pS]
      refine tK 12 (some 133) (.bool bN) rfl rfl hS (fun w hSw => by have hSa := hSw.1; have hSb := hSw.2.1; have hSc := hSw.2.2; clear hSw; obtain ⟨y0, y1, y2, y3, y4, y5⟩ := hSa.sB.c6; obtain ⟨x0, x1, x2, x3, x4, x5⟩ := hSb.c6; clear hSa hSb; simp [sv6, cq4] at y0 y1 y2 y3 y4 y5 x0 x1 x2 x3 x4 x5; go_split_ands; go_simp <;> first | rfl | omega | (intro h; exfalso; omega) | exact hwt | exact hNo | (simp [hNo, hVe]; done) | (simp; done)) ?_
      simp only [pS]
      refine tK 13 (some 134) (.pointer (some ⟨xb, 4, none⟩)) rfl rfl hS (fun w hSw => by have hSa := hSw.1; have hSb := hSw.2.1; have hSc := hSw.2.2; clear hSw; obtain ⟨y0, y1, y2, y3, y4, y5⟩ := hSa.sB.c6; obtain ⟨x0, x1, x2, x3, x4, x5⟩ := hSb.c6; clear hSa hSb; simp [sv6, cq4] at y0 y1 y2 y3 y4 y5 x0 x1 x2 x3 x4 x5; go_split_ands; go_simp <;> first | rfl | omega | (intro h; exfalso; omega) | exact hwt | exact hNo | (simp [hNo, hVe]; done) | (simp; done)) ?_
      simp only [pS]
      refine tK 14 (some 135) (.int .i64 rV) rfl rfl hS (fun w hSw => by have hSa := hSw.1; have hSb := hSw.2.1; have hSc := hSw.2.2; clear hSw; obtain ⟨y0, y1, y2, y3, y4, y5⟩ := hSa.sB.c6; obtain ⟨x0, x1, x2, x3, x4, x5⟩ := hSb.c6; clear hSa hSb; simp [sv6, cq4] at y0 y1 y2 y3 y4 y5 x0 x1 x2 x3 x4 x5; go_split_ands; go_simp <;> first | rfl | omega | (intro h; exfalso; omega) | exact hwt | exact hNo | (simp [hNo, hVe]; done) | (simp; done)) ?_
      simp only [pS]
      refine tK 15 (some 136) (.pointer (some ⟨sb, 4, none⟩)) rfl rfl hS (fun w hSw => by have hSa := hSw.1; have hSb := hSw.2.1; have hSc := hSw.2.2; clear hSw; obtain ⟨y0, y1, y2, y3, y4, y5⟩ := hSa.sB.c6; obtain ⟨x0, x1, x2, x3, x4, x5⟩ := hSb.c6; clear hSa hSb; simp [sv6, cq4] at y0 y1 y2 y3 y4 y5 x0 x1 x2 x3 x4 x5; go_split_ands; go_simp <;> first | rfl | omega | (intro h; exfalso; omega) | exact hwt | exact hNo | (simp [hNo, hVe]; done) | (simp; done)) ?_
      simp only [pS]
      refine tK 16 (some 137) (.int .i64 V) rfl rfl hS (fun w hSw => by have hSa := hSw.1; have hSb := hSw.2.1; have hSc := hSw.2.2; clear hSw; obtain ⟨y0, y1, y2, y3, y4, y5⟩ := hSa.sB.c6; obtain ⟨x0, x1, x2, x3, x4, x5⟩ := hSb.c6; clear hSa hSb; simp [sv6, cq4] at y0 y1 y2 y3 y4 y5 x0 x1 x2 x3 x4 x5; go_split_ands; go_simp <;> first | rfl | omega | (intro h; exfalso; omega) | exact hwt | exact hNo | (simp [hNo, hVe]; done) | (simp; done)) ?_
      simp only [pS]
      refine tK 17 (some 138) (.bool bN) rfl rfl hS (fun w hSw => by have hSa := hSw.1; have hSb := hSw.2.1; have hSc := hSw.2.2; clear hSw; obtain ⟨y0, y1, y2, y3, y4, y5⟩ := hSa.sB.c6; obtain ⟨x0, x1, x2, x3, x4, x5⟩ := hSb.c6; clear hSa hSb; simp [sv6, cq4] at y0 y1 y2 y3 y4 y5 x0 x1 x2 x3 x4 x5; go_split_ands; go_simp <;> first | rfl | omega | (intro h; exfalso; omega) | exact hwt | exact hNo | (simp [hNo, hVe]; done) | (simp; done)) ?_
      simp only [pS]
      refine tK 18 (some 139) (.bool true) rfl rfl hS (fun w hSw => by have hSa := hSw.1; have hSb := hSw.2.1; have hSc := hSw.2.2; clear hSw; obtain ⟨y0, y1, y2, y3, y4, y5⟩ := hSa.sB.c6; obtain ⟨x0, x1, x2, x3, x4, x5⟩ := hSb.c6; clear hSa hSb; simp [sv6, cq4] at y0 y1 y2 y3 y4 y5 x0 x1 x2 x3 x4 x5; go_split_ands; go_simp <;> first | rfl | omega | (intro h; exfalso; omega) | exact hwt | exact hNo | (simp [hNo, hVe]; done) | (simp; done)) ?_
      simp only [pS]
      refine tK 19 (some 140) (.bool true) rfl rfl hS (fun w hSw => by have hSa := hSw.1; have hSb := hSw.2.1; have hSc := hSw.2.2; clear hSw; obtain ⟨y0, y1, y2, y3, y4, y5⟩ := hSa.sB.c6; obtain ⟨x0, x1, x2, x3, x4, x5⟩ := hSb.c6; clear hSa hSb; simp [sv6, cq4] at y0 y1 y2 y3 y4 y5 x0 x1 x2 x3 x4 x5; go_split_ands; go_simp <;> first | rfl | omega | (intro h; exfalso; omega) | exact hwt | exact hNo | (simp [hNo, hVe]; done) | (simp; done)) ?_
      simp only [pS]
      refine tK 20 (some 141) (.bool true) rfl rfl hS (fun w hSw => by have hSa := hSw.1; have hSb := hSw.2.1; have hSc := hSw.2.2; clear hSw; obtain ⟨y0, y1, y2, y3, y4, y5⟩ := hSa.sB.c6; obtain ⟨x0, x1, x2, x3, x4, x5⟩ := hSb.c6; clear hSa hSb; simp [sv6, cq4] at y0 y1 y2 y3 y4 y5 x0 x1 x2 x3 x4 x5; go_split_ands; go_simp <;> first | rfl | omega | (intro h; exfalso; omega) | exact hwt | exact hNo | (simp [hNo, hVe]; done) | (simp; done)) ?_
      simp only [pS]
      refine tK 21 (some 142) (.agg #[.int .i64 rp, .slice ax 0 acx, .slice px rk pcx, .slice ex rm ecx, .int .i64 rV, .slice (some ⟨sB, sO, none⟩) (t + 1) scx]) rfl rfl hS (fun w hSw => by have hSa := hSw.1; have hSb := hSw.2.1; have hSc := hSw.2.2; clear hSw; obtain ⟨y0, y1, y2, y3, y4, y5⟩ := hSa.sB.c6; obtain ⟨x0, x1, x2, x3, x4, x5⟩ := hSb.c6; clear hSa hSb; simp [sv6, cq4] at y0 y1 y2 y3 y4 y5 x0 x1 x2 x3 x4 x5; go_split_ands; go_simp <;> first | rfl | omega | (intro h; exfalso; omega) | exact hwt | exact hNo | (simp [hNo, hVe]; done) | (simp; done)) ?_
      simp only [pS]
      refine step1H 22 _ rfl (by kernel_rfl) (by rfl) ?_
      go_simp
      refine (implServiceOk_any rp ax 0 acx F T rG px rk pcx P ex rm ecx L H rV _ (t + 1) scx rS (by omega) (by omega) (by omega) (by omega) _ xa xi xe).mono ?_
      rintro e w21 ⟨⟨bb9, rfl, hbb9⟩, hb21⟩
      obtain rfl : bb9 = true := hbb9.2 HOK1.out
      clear hbb9
      replace hS : (fun W => LB w sb (sb + 1) p2 ao n cap po k2 pc eo m ec V so t sc 2 xo x xc a b F T G P L H S A B C W ∧ VHas W xb 33 6 (sv6 rp (.slice ax 0 acx) (.slice px rk pcx) (.slice ex rm ecx) rV (.slice (some ⟨sB, sO, none⟩) (t + 1) scx)) ∧ W.cell? ⟨sB, sO + t, none⟩ = some (.string (rS t))) w21 := ⟨hS.1.next hb21, hS.2.1.next hb21, keep_cell hb21 nl hS.2.2⟩
      refine ⟨hS, ?_⟩
      refine tK 23 (some 144) (.bool true) rfl rfl hS (fun w hSw => by have hSa := hSw.1; have hSb := hSw.2.1; have hSc := hSw.2.2; clear hSw; obtain ⟨y0, y1, y2, y3, y4, y5⟩ := hSa.sB.c6; obtain ⟨x0, x1, x2, x3, x4, x5⟩ := hSb.c6; clear hSa hSb; simp [sv6, cq4] at y0 y1 y2 y3 y4 y5 x0 x1 x2 x3 x4 x5; go_split_ands; go_simp <;> first | rfl | omega | (intro h; exfalso; omega) | exact hwt | exact hNo | (simp [hNo, hVe]; done) | (simp; done)) ?_
      simp only [pS]
      refine tK 24 (some 2) (.bool true) rfl rfl hS (fun w hSw => by have hSa := hSw.1; have hSb := hSw.2.1; have hSc := hSw.2.2; clear hSw; obtain ⟨y0, y1, y2, y3, y4, y5⟩ := hSa.sB.c6; obtain ⟨x0, x1, x2, x3, x4, x5⟩ := hSb.c6; clear hSa hSb; simp [sv6, cq4] at y0 y1 y2 y3 y4 y5 x0 x1 x2 x3 x4 x5; go_split_ands; go_simp <;> first | rfl | omega | (intro h; exfalso; omega) | exact hwt | exact hNo | (simp [hNo, hVe]; done) | (simp; done)) ?_
      simp only [pS]
      refine wpAnyH_done (by kernel_rfl) ?_ _
      go_wp2
      go_ret
      exact ⟨rfl, hS.1.bel⟩
    · go_wp2_with fail
      clear x0 x1 x2 x3 x4 x5 s0 s1 s2 s3 s4 s5 c0 c1 c2 c3
      have hd := (Below.refl w18.heap.size w18).drew
      have xsd := xsc
      have HS : (fun W => LB w sb (sb + 1) p2 ao n cap po k2 pc eo m ec V so t sc 2 xo x xc a b F T G P L H S A B C W ∧ VHas W xb 33 6 (sv6 rp (.slice ax rn acx) (.slice px rk pcx) (.slice ex rm ecx) rV (.slice (some ⟨sB, sO, none⟩) (t + 1) scx)) ∧ W.cell? ⟨sB, sO + t, none⟩ = some (.string (rS t))) w18.drew := ⟨HB.next hd, HX.next hd, keep_cell hd nl xsc⟩
      have hE4 := hend _ hd
      clear hend
      replace xa := xa.below hd nl
      replace xi := xi.below hd nl
      replace xe := xe.below hd nl
      refine wp_region_held_drew (S := fun W => LB w sb (sb + 1) p2 ao n cap po k2 pc eo m ec V so t sc 2 xo x xc a b F T G P L H S A B C W ∧ VHas W xb 33 6 (sv6 rp (.slice ax rn acx) (.slice px rk pcx) (.slice ex rm ecx) rV (.slice (some ⟨sB, sO, none⟩) (t + 1) scx)) ∧ W.cell? ⟨sB, sO + t, none⟩ = some (.string (rS t))) (by kernel_rfl) HS (fun hS => ?_)
      generalize w18.drew = W20 at xa xi xe HS hS hE4 ⊢
      clear hd HB HX HS xsc xsd xs
      refine tK 0 (some 121) (.pointer (some ⟨xb, 5, none⟩)) rfl rfl hS (fun w hSw => by have hSa := hSw.1; have hSb := hSw.2.1; have hSc := hSw.2.2; clear hSw; obtain ⟨y0, y1, y2, y3, y4, y5⟩ := hSa.sB.c6; obtain ⟨x0, x1, x2, x3, x4, x5⟩ := hSb.c6; clear hSa hSb; simp [sv6, cq4] at y0 y1 y2 y3 y4 y5 x0 x1 x2 x3 x4 x5; go_split_ands; go_simp <;> first | rfl | omega | (intro h; exfalso; omega) | exact hwt | exact hNo | (simp [hNo, hVe]; done) | (simp; done)) ?_
      simp only [pS]
      refine tK 1 (some 122) (.slice (some ⟨sB, sO, none⟩) (t + 1) scx) rfl rfl hS (fun w hSw => by have hSa := hSw.1; have hSb := hSw.2.1; have hSc := hSw.2.2; clear hSw; obtain ⟨y0, y1, y2, y3, y4, y5⟩ := hSa.sB.c6; obtain ⟨x0, x1, x2, x3, x4, x5⟩ := hSb.c6; clear hSa hSb; simp [sv6, cq4] at y0 y1 y2 y3 y4 y5 x0 x1 x2 x3 x4 x5; go_split_ands; go_simp <;> first | rfl | omega | (intro h; exfalso; omega) | exact hwt | exact hNo | (simp [hNo, hVe]; done) | (simp; done)) ?_
      simp only [pS]
      refine tK 2 (some 123) (.int .i64 ((t : Int) + 1)) rfl rfl hS (fun w hSw => by have hSa := hSw.1; have hSb := hSw.2.1; have hSc := hSw.2.2; clear hSw; obtain ⟨y0, y1, y2, y3, y4, y5⟩ := hSa.sB.c6; obtain ⟨x0, x1, x2, x3, x4, x5⟩ := hSb.c6; clear hSa hSb; simp [sv6, cq4] at y0 y1 y2 y3 y4 y5 x0 x1 x2 x3 x4 x5; go_split_ands; go_simp <;> first | rfl | omega | (intro h; exfalso; omega) | exact hwt | exact hNo | (simp [hNo, hVe]; done) | (simp; done)) ?_
      simp only [pS]
      refine tK 3 (some 124) (.int .i64 ↑t) rfl rfl hS (fun w hSw => by have hSa := hSw.1; have hSb := hSw.2.1; have hSc := hSw.2.2; clear hSw; obtain ⟨y0, y1, y2, y3, y4, y5⟩ := hSa.sB.c6; obtain ⟨x0, x1, x2, x3, x4, x5⟩ := hSb.c6; clear hSa hSb; simp [sv6, cq4] at y0 y1 y2 y3 y4 y5 x0 x1 x2 x3 x4 x5; go_split_ands; go_simp <;> first | rfl | omega | (intro h; exfalso; omega) | exact hwt | exact hNo | (simp [hNo, hVe]; done) | (simp; done)) ?_
      simp only [pS]
      refine tK 4 (some 125) (.int .i64 ((t : Int) + 1)) rfl rfl hS (fun w hSw => by have hSa := hSw.1; have hSb := hSw.2.1; have hSc := hSw.2.2; clear hSw; obtain ⟨y0, y1, y2, y3, y4, y5⟩ := hSa.sB.c6; obtain ⟨x0, x1, x2, x3, x4, x5⟩ := hSb.c6; clear hSa hSb; simp [sv6, cq4] at y0 y1 y2 y3 y4 y5 x0 x1 x2 x3 x4 x5; go_split_ands; go_simp <;> first | rfl | omega | (intro h; exfalso; omega) | exact hwt | exact hNo | (simp [hNo, hVe]; done) | (simp; done)) ?_
      simp only [pS]
      refine tK 5 (some 126) (.bool true) rfl rfl hS (fun w hSw => by have hSa := hSw.1; have hSb := hSw.2.1; have hSc := hSw.2.2; clear hSw; obtain ⟨y0, y1, y2, y3, y4, y5⟩ := hSa.sB.c6; obtain ⟨x0, x1, x2, x3, x4, x5⟩ := hSb.c6; clear hSa hSb; simp [sv6, cq4] at y0 y1 y2 y3 y4 y5 x0 x1 x2 x3 x4 x5; go_split_ands; go_simp <;> first | rfl | omega | (intro h; exfalso; omega) | exact hwt | exact hNo | (simp [hNo, hVe]; done) | (simp; done)) ?_
      simp only [pS]
      refine tK 6 (some 127) (.bool true) rfl rfl hS (fun w hSw => by have hSa := hSw.1; have hSb := hSw.2.1; have hSc := hSw.2.2; clear hSw; obtain ⟨y0, y1, y2, y3, y4, y5⟩ := hSa.sB.c6; obtain ⟨x0, x1, x2, x3, x4, x5⟩ := hSb.c6; clear hSa hSb; simp [sv6, cq4] at y0 y1 y2 y3 y4 y5 x0 x1 x2 x3 x4 x5; go_split_ands; go_simp <;> first | rfl | omega | (intro h; exfalso; omega) | exact hwt | exact hNo | (simp [hNo, hVe]; done) | (simp; done)) ?_
      simp only [pS]
      refine tK 7 (some 128) (.pointer (some ⟨xb, 5, none⟩)) rfl rfl hS (fun w hSw => by have hSa := hSw.1; have hSb := hSw.2.1; have hSc := hSw.2.2; clear hSw; obtain ⟨y0, y1, y2, y3, y4, y5⟩ := hSa.sB.c6; obtain ⟨x0, x1, x2, x3, x4, x5⟩ := hSb.c6; clear hSa hSb; simp [sv6, cq4] at y0 y1 y2 y3 y4 y5 x0 x1 x2 x3 x4 x5; go_split_ands; go_simp <;> first | rfl | omega | (intro h; exfalso; omega) | exact hwt | exact hNo | (simp [hNo, hVe]; done) | (simp; done)) ?_
      simp only [pS]
      refine tK 8 (some 129) (.slice (some ⟨sB, sO, none⟩) (t + 1) scx) rfl rfl hS (fun w hSw => by have hSa := hSw.1; have hSb := hSw.2.1; have hSc := hSw.2.2; clear hSw; obtain ⟨y0, y1, y2, y3, y4, y5⟩ := hSa.sB.c6; obtain ⟨x0, x1, x2, x3, x4, x5⟩ := hSb.c6; clear hSa hSb; simp [sv6, cq4] at y0 y1 y2 y3 y4 y5 x0 x1 x2 x3 x4 x5; go_split_ands; go_simp <;> first | rfl | omega | (intro h; exfalso; omega) | exact hwt | exact hNo | (simp [hNo, hVe]; done) | (simp; done)) ?_
      simp only [pS]
      refine tK 9 (some 130) (.int .i64 ↑t) rfl rfl hS (fun w hSw => by have hSa := hSw.1; have hSb := hSw.2.1; have hSc := hSw.2.2; clear hSw; obtain ⟨y0, y1, y2, y3, y4, y5⟩ := hSa.sB.c6; obtain ⟨x0, x1, x2, x3, x4, x5⟩ := hSb.c6; clear hSa hSb; simp [sv6, cq4] at y0 y1 y2 y3 y4 y5 x0 x1 x2 x3 x4 x5; go_split_ands; go_simp <;> first | rfl | omega | (intro h; exfalso; omega) | exact hwt | exact hNo | (simp [hNo, hVe]; done) | (simp; done)) ?_
      simp only [pS]
      refine tK 10 (some 131) (.pointer (some ⟨sB, sO + t, none⟩)) rfl rfl hS (fun w hSw => by have hSa := hSw.1; have hSb := hSw.2.1; have hSc := hSw.2.2; clear hSw; obtain ⟨y0, y1, y2, y3, y4, y5⟩ := hSa.sB.c6; obtain ⟨x0, x1, x2, x3, x4, x5⟩ := hSb.c6; clear hSa hSb; simp [sv6, cq4] at y0 y1 y2 y3 y4 y5 x0 x1 x2 x3 x4 x5; go_split_ands; go_simp <;> first | rfl | omega | (intro h; exfalso; omega) | exact hwt | exact hNo | (simp [hNo, hVe]; done) | (simp; done)) ?_
      simp only [pS]
      refine tK 11 (some 132) (.string (rS t)) rfl rfl hS (fun w hSw => by have hSa := hSw.1; have hSb := hSw.2.1; have hSc := hSw.2.2; clear hSw; obtain ⟨y0, y1, y2, y3, y4, y5⟩ := hSa.sB.c6; obtain ⟨x0, x1, x2, x3, x4, x5⟩ := hSb.c6; clear hSa hSb; simp [sv6, cq4] at y0 y1 y2 y3 y4 y5 x0 x1 x2 x3 x4 x5; go_split_ands; go_simp <;> first | rfl | omega | (intro h; exfalso; omega) | exact hwt | exact hNo | (simp [hNo, hVe]; done) | (simp; done)) ?_
      simp only [pS]
      refine tK 12 (some 133) (.bool bN) rfl rfl hS (fun w hSw => by have hSa := hSw.1; have hSb := hSw.2.1; have hSc := hSw.2.2; clear hSw; obtain ⟨y0, y1, y2, y3, y4, y5⟩ := hSa.sB.c6; obtain ⟨x0, x1, x2, x3, x4, x5⟩ := hSb.c6; clear hSa hSb; simp [sv6, cq4] at y0 y1 y2 y3 y4 y5 x0 x1 x2 x3 x4 x5; go_split_ands; go_simp <;> first | rfl | omega | (intro h; exfalso; omega) | exact hwt | exact hNo | (simp [hNo, hVe]; done) | (simp; done)) ?_
      simp only [pS]
      refine tK 13 (some 134) (.pointer (some ⟨xb, 4, none⟩)) rfl rfl hS (fun w hSw => by have hSa := hSw.1; have hSb := hSw.2.1; have hSc := hSw.2.2; clear hSw; obtain ⟨y0, y1, y2, y3, y4, y5⟩ := hSa.sB.c6; obtain ⟨x0, x1, x2, x3, x4, x5⟩ := hSb.c6; clear hSa hSb; simp [sv6, cq4] at y0 y1 y2 y3 y4 y5 x0 x1 x2 x3 x4 x5; go_split_ands; go_simp <;> first | rfl | omega | (intro h; exfalso; omega) | exact hwt | exact hNo | (simp [hNo, hVe]; done) | (simp; done)) ?_
      simp only [pS]
      refine tK 14 (some 135) (.int .i64 rV) rfl rfl hS (fun w hSw => by have hSa := hSw.1; have hSb := hSw.2.1; have hSc := hSw.2.2; clear hSw; obtain ⟨y0, y1, y2, y3, y4, y5⟩ := hSa.sB.c6; obtain ⟨x0, x1, x2, x3, x4, x5⟩ := hSb.c6; clear hSa hSb; simp [sv6, cq4] at y0 y1 y2 y3 y4 y5 x0 x1 x2 x3 x4 x5; go_split_ands; go_simp <;> first | rfl | omega | (intro h; exfalso; omega) | exact hwt | exact hNo | (simp [hNo, hVe]; done) | (simp; done)) ?_
      simp only [pS]
      refine tK 15 (some 136) (.pointer (some ⟨sb, 4, none⟩)) rfl rfl hS (fun w hSw => by have hSa := hSw.1; have hSb := hSw.2.1; have hSc := hSw.2.2; clear hSw; obtain ⟨y0, y1, y2, y3, y4, y5⟩ := hSa.sB.c6; obtain ⟨x0, x1, x2, x3, x4, x5⟩ := hSb.c6; clear hSa hSb; simp [sv6, cq4] at y0 y1 y2 y3 y4 y5 x0 x1 x2 x3 x4 x5; go_split_ands; go_simp <;> first | rfl | omega | (intro h; exfalso; omega) | exact hwt | exact hNo | (simp [hNo, hVe]; done) | (simp; done)) ?_
      simp only [pS]
      refine tK 16 (some 137) (.int .i64 V) rfl rfl hS (fun w hSw => by have hSa := hSw.1; have hSb := hSw.2.1; have hSc := hSw.2.2; clear hSw; obtain ⟨y0, y1, y2, y3, y4, y5⟩ := hSa.sB.c6; obtain ⟨x0, x1, x2, x3, x4, x5⟩ := hSb.c6; clear hSa hSb; simp [sv6, cq4] at y0 y1 y2 y3 y4 y5 x0 x1 x2 x3 x4 x5; go_split_ands; go_simp <;> first | rfl | omega | (intro h; exfalso; omega) | exact hwt | exact hNo | (simp [hNo, hVe]; done) | (simp; done)) ?_
      simp only [pS]
      refine tK 17 (some 138) (.bool bN) rfl rfl hS (fun w hSw => by have hSa := hSw.1; have hSb := hSw.2.1; have hSc := hSw.2.2; clear hSw; obtain ⟨y0, y1, y2, y3, y4, y5⟩ := hSa.sB.c6; obtain ⟨x0, x1, x2, x3, x4, x5⟩ := hSb.c6; clear hSa hSb; simp [sv6, cq4] at y0 y1 y2 y3 y4 y5 x0 x1 x2 x3 x4 x5; go_split_ands; go_simp <;> first | rfl | omega | (intro h; exfalso; omega) | exact hwt | exact hNo | (simp [hNo, hVe]; done) | (simp; done)) ?_
      simp only [pS]
      refine tK 18 (some 139) (.bool true) rfl rfl hS (fun w hSw => by have hSa := hSw.1; have hSb := hSw.2.1; have hSc := hSw.2.2; clear hSw; obtain ⟨y0, y1, y2, y3, y4, y5⟩ := hSa.sB.c6; obtain ⟨x0, x1, x2, x3, x4, x5⟩ := hSb.c6; clear hSa hSb; simp [sv6, cq4] at y0 y1 y2 y3 y4 y5 x0 x1 x2 x3 x4 x5; go_split_ands; go_simp <;> first | rfl | omega | (intro h; exfalso; omega) | exact hwt | exact hNo | (simp [hNo, hVe]; done) | (simp; done)) ?_
      simp only [pS]
      refine tK 19 (some 140) (.bool true) rfl rfl hS (fun w hSw => by have hSa := hSw.1; have hSb := hSw.2.1; have hSc := hSw.2.2; clear hSw; obtain ⟨y0, y1, y2, y3, y4, y5⟩ := hSa.sB.c6; obtain ⟨x0, x1, x2, x3, x4, x5⟩ := hSb.c6; clear hSa hSb; simp [sv6, cq4] at y0 y1 y2 y3 y4 y5 x0 x1 x2 x3 x4 x5; go_split_ands; go_simp <;> first | rfl | omega | (intro h; exfalso; omega) | exact hwt | exact hNo | (simp [hNo, hVe]; done) | (simp; done)) ?_
      simp only [pS]
      refine tK 20 (some 141) (.bool true) rfl rfl hS (fun w hSw => by have hSa := hSw.1; have hSb := hSw.2.1; have hSc := hSw.2.2; clear hSw; obtain ⟨y0, y1, y2, y3, y4, y5⟩ := hSa.sB.c6; obtain ⟨x0, x1, x2, x3, x4, x5⟩ := hSb.c6; clear hSa hSb; simp [sv6, cq4] at y0 y1 y2 y3 y4 y5 x0 x1 x2 x3 x4 x5; go_split_ands; go_simp <;> first | rfl | omega | (intro h; exfalso; omega) | exact hwt | exact hNo | (simp [hNo, hVe]; done) | (simp; done)) ?_
      simp only [pS]
      refine tK 21 (some 142) (.agg #[.int .i64 rp, .slice ax rn acx, .slice px rk pcx, .slice ex rm ecx, .int .i64 rV, .slice (some ⟨sB, sO, none⟩) (t + 1) scx]) rfl rfl hS (fun w hSw => by have hSa := hSw.1; have hSb := hSw.2.1; have hSc := hSw.2.2; clear hSw; obtain ⟨y0, y1, y2, y3, y4, y5⟩ := hSa.sB.c6; obtain ⟨x0, x1, x2, x3, x4, x5⟩ := hSb.c6; clear hSa hSb; simp [sv6, cq4] at y0 y1 y2 y3 y4 y5 x0 x1 x2 x3 x4 x5; go_split_ands; go_simp <;> first | rfl | omega | (intro h; exfalso; omega) | exact hwt | exact hNo | (simp [hNo, hVe]; done) | (simp; done)) ?_
      simp only [pS]
      refine step1H 22 _ rfl (by kernel_rfl) (by rfl) ?_
      go_simp
      refine (implServiceOk_any rp ax rn acx F T rG px rk pcx P ex rm ecx L H rV _ (t + 1) scx rS (by omega) (by omega) (by omega) (by omega) _ xa xi xe).mono ?_
      rintro e w21 ⟨⟨bb9, rfl, hbb9⟩, hb21⟩
      obtain rfl : bb9 = true := hbb9.2 HOK1.out
      clear hbb9
      replace hS : (fun W => LB w sb (sb + 1) p2 ao n cap po k2 pc eo m ec V so t sc 2 xo x xc a b F T G P L H S A B C W ∧ VHas W xb 33 6 (sv6 rp (.slice ax rn acx) (.slice px rk pcx) (.slice ex rm ecx) rV (.slice (some ⟨sB, sO, none⟩) (t + 1) scx)) ∧ W.cell? ⟨sB, sO + t, none⟩ = some (.string (rS t))) w21 := ⟨hS.1.next hb21, hS.2.1.next hb21, keep_cell hb21 nl hS.2.2⟩
      refine ⟨hS, ?_⟩
      refine tK 23 (some 144) (.bool true) rfl rfl hS (fun w hSw => by have hSa := hSw.1; have hSb := hSw.2.1; have hSc := hSw.2.2; clear hSw; obtain ⟨y0, y1, y2, y3, y4, y5⟩ := hSa.sB.c6; obtain ⟨x0, x1, x2, x3, x4, x5⟩ := hSb.c6; clear hSa hSb; simp [sv6, cq4] at y0 y1 y2 y3 y4 y5 x0 x1 x2 x3 x4 x5; go_split_ands; go_simp <;> first | rfl | omega | (intro h; exfalso; omega) | exact hwt | exact hNo | (simp [hNo, hVe]; done) | (simp; done)) ?_
      simp only [pS]
      refine tK 24 (some 2) (.bool true) rfl rfl hS (fun w hSw => by have hSa := hSw.1; have hSb := hSw.2.1; have hSc := hSw.2.2; clear hSw; obtain ⟨y0, y1, y2, y3, y4, y5⟩ := hSa.sB.c6; obtain ⟨x0, x1, x2, x3, x4, x5⟩ := hSb.c6; clear hSa hSb; simp [sv6, cq4] at y0 y1 y2 y3 y4 y5 x0 x1 x2 x3 x4 x5; go_split_ands; go_simp <;> first | rfl | omega | (intro h; exfalso; omega) | exact hwt | exact hNo | (simp [hNo, hVe]; done) | (simp; done)) ?_
      simp only [pS]
      refine wpAnyH_done (by kernel_rfl) ?_ _
      go_wp2
      go_ret
      exact ⟨rfl, hS.1.bel⟩

end Go.Proofs.YthmpliljffmmcaaGreatDoor
