/-
  Helpers: DrawSv.
-/
import Derived.Test.YthmpliljffmmcaaGreatDoorPack1
import Derived.Test.YthmpliljffmmcaaGreatDoorPack29
import Derived.Test.YthmpliljffmmcaaGreatDoorPack30
import Derived.Test.YthmpliljffmmcaaGreatDoorPack12
import Derived.Test.YthmpliljffmmcaaGreatDoorPack31
import Derived.Test.YthmpliljffmmcaaGreatDoorPack11
import Derived.Deep.RegionHeld3
set_option linter.unusedVariables false
set_option linter.unusedSimpArgs false
namespace Go.Proofs.YthmpliljffmmcaaGreatDoor
section
open Go.RowKit Go.Maps Go.Deep Go.Joins
attribute [local go_sem ↓] Go.wp_at_zero Go.wp_at_succ
structure DSv (w : World) (base c : Nat) (bo : Option Addr) (bn bc : Nat) (gb : Nat) (p : Int) (go : Option Addr) (k gc : Nat) (sb : Nat) (p2 : Int) (ao : Option Addr) (n cap : Nat) (po : Option Addr) (k2 pc : Nat) (eo : Option Addr) (m ec : Nat) (V : Int) (so : Option Addr) (t sc : Nat) (W : World) : Prop where
  cur : CurAt W base c bo bn bc
  gbx : VHas W gb 26 2 (gb2 p (.slice go k gc))
  own : AOwnE W w.heap.size go k gc
  sbx : VHas W sb 33 6 (sv6 p2 (.slice ao n cap) (.slice po k2 pc) (.slice eo m ec) V (.slice so t sc))
  rows : ∃ F T G P L H S, SvM W ao n po k2 eo m so t F T G P L H S
  res : VHas W w.heap.size 33 6 (sv6 0 (.slice none 0 0) (.slice none 0 0) (.slice none 0 0) 0 (.slice none 0 0))
  gr : w.grownBy W (some c)
  lt : c < w.heap.size ∧ w.heap.size < gb ∧ gb < sb ∧ k ≤ 81
  room : m ≤ ec
section
variable {w : World} {base c : Nat} {bo : Option Addr} {bn bc : Nat} {gb : Nat} {p : Int} {go : Option Addr} {k gc : Nat} {sb : Nat} {p2 : Int} {ao : Option Addr} {n cap : Nat} {po : Option Addr} {k2 pc : Nat} {eo : Option Addr} {m ec : Nat} {V : Int} {so : Option Addr} {t sc : Nat} {W W' : World}
theorem DSv.next (h : DSv w base c bo bn bc gb p go k gc sb p2 ao n cap po k2 pc eo m ec V so t sc W) (hb : Below W.heap.size W W') : DSv w base c bo bn bc gb p go k gc sb p2 ao n cap po k2 pc eo m ec V so t sc W' := by
  obtain ⟨F, T, G, P, L, H, S, hr⟩ := h.rows
  exact ⟨h.cur.next hb, h.gbx.next hb, h.own.next hb, h.sbx.next hb, ⟨F, T, G, P, L, H, S, hr.next hb⟩, h.res.next hb, h.gr.trans (below_grown hb), h.lt, h.room⟩
theorem DSv.step (h : DSv w base c bo bn bc gb p go k gc sb p2 ao n cap po k2 pc eo m ec V so t sc W) (hC : CurAt W' base c bo bn bc) (hg : W.grownBy W' (some c)) : DSv w base c bo bn bc gb p go k gc sb p2 ao n cap po k2 pc eo m ec V so t sc W' := by
  obtain ⟨F, T, G, P, L, H, S, hr⟩ := h.rows
  have hl := h.lt
  exact ⟨hC, h.gbx.grown hg (by simp; omega), h.own.grown hg (by omega), h.sbx.grown hg (by simp; omega), ⟨F, T, G, P, L, H, S, hr.gr hg h.cur.typed⟩, h.res.grown hg (by simp; omega), h.gr.trans hg, h.lt, h.room⟩
end
def RC (base c : Nat) (bo : Option Addr) (bn bc : Nat) (u v : World) : Prop := u.grownBy v (some c) ∧ (CurAt u base c bo bn bc → CurAt v base c bo bn bc)
section
variable {base c : Nat} {bo : Option Addr} {bn bc : Nat}
theorem RC.refl (u : World) : RC base c bo bn bc u u := ⟨below_grown (Below.refl _ _), id⟩
theorem RC.trans (u v x : World) (h : RC base c bo bn bc u v) (k : RC base c bo bn bc v x) : RC base c bo bn bc u x := ⟨h.1.trans k.1, fun q => k.2 (h.2 q)⟩
theorem RC.below {u v : World} (h : Below u.heap.size u v) : RC base c bo bn bc u v := ⟨below_grown h, fun q => q.next h⟩
theorem RC.drawn {u v : World} (h : u.grownBy v (some c)) (k : CurAt v base c bo bn bc) : RC base c bo bn bc u v := ⟨h, fun _ => k⟩
def CmE (base c : Nat) (bo : Option Addr) (bn bc : Nat) (v : Value) (w' : World) : Prop := CurAt w' base c bo bn bc ∧ ∃ (K : Int) (xo : Option Addr) (x xc : Nat) (a b : Int), v = .agg #[.int .i64 K, .slice xo x xc, .int .i64 a, .int .i64 b] ∧ x ≤ 300 ∧ ∃ A B C : Nat → Int, RowT w' 67 xo (x * 3) (fun j => Value.int .i64 (ar A B C j))
theorem CmE.rc {v : Value} {w w' : World} (h : CmE base c bo bn bc v w) (k : RC base c bo bn bc w w') : CmE base c bo bn bc v w' := by
  obtain ⟨hC, K, xo, x, xc, a, b, e, hx, A, B, C, hr⟩ := h
  exact ⟨k.2 hC, K, xo, x, xc, a, b, e, hx, A, B, C, hr.gr k.1 (fun y e => by cases e; exact hC.typed) (by decide)⟩
def SvE (base c : Nat) (bo : Option Addr) (bn bc : Nat) (tt : Nat) (v : Value) (w' : World) : Prop := CurAt w' base c bo bn bc ∧ ∃ p2 ao n cap po k2 pc eo m ec V so t sc, v = .agg #[.int .i64 p2, .slice ao n cap, .slice po k2 pc, .slice eo m ec, .int .i64 V, .slice so t sc] ∧ (t ≤ tt ∧ m ≤ ec) ∧ ∃ F T G P L H S, SvM w' ao n po k2 eo m so t F T G P L H S
theorem SvE.rc {tt : Nat} {v : Value} {w w' : World} (h : SvE base c bo bn bc tt v w) (k : RC base c bo bn bc w w') : SvE base c bo bn bc tt v w' := by
  obtain ⟨hC, p2, ao, n, cap, po, k2, pc, eo, m, ec, V, so, t, sc, e, ht, F, T, G, P, L, H, S, hr⟩ := h
  exact ⟨k.2 hC, p2, ao, n, cap, po, k2, pc, eo, m, ec, V, so, t, sc, e, ht, F, T, G, P, L, H, S, hr.gr k.1 hC.typed⟩
def BxE (c lo : Nat) (v : Value) (w' : World) : Prop := ∃ b, v = .pointer (some ⟨b, 0, none⟩) ∧ lo ≤ b ∧ c < lo ∧ VHas w' b 33 6 (sv6 0 (.slice none 0 0) (.slice none 0 0) (.slice none 0 0) 0 (.slice none 0 0))
theorem BxE.rc {lo : Nat} {v : Value} {w w' : World} (h : BxE c lo v w) (k : RC base c bo bn bc w w') : BxE c lo v w' := by
  obtain ⟨b, e, h1, h2, hv⟩ := h
  exact ⟨b, e, h1, h2, hv.grown k.1 (by simp; omega)⟩
end
theorem DSv.rc {w : World} {base c : Nat} {bo : Option Addr} {bn bc : Nat} {gb : Nat} {p : Int} {go : Option Addr} {k gc : Nat} {sb : Nat} {p2 : Int} {ao : Option Addr} {n cap : Nat} {po : Option Addr} {k2 pc : Nat} {eo : Option Addr} {m ec : Nat} {V : Int} {so : Option Addr} {t sc : Nat} {W W' : World} (h : DSv w base c bo bn bc gb p go k gc sb p2 ao n cap po k2 pc eo m ec V so t sc W) (h9 : RC base c bo bn bc W W') : DSv w base c bo bn bc gb p go k gc sb p2 ao n cap po k2 pc eo m ec V so t sc W' := h.step (h9.2 h.cur) h9.1
theorem apR_b (p : Int) (n : Nat) (F T G : Nat → Int) (k : Nat) (P : Nat → Int) (m : Nat) (L H : Nat → Int) (V : Int) (t : Nat) (S : Nat → ByteArray) (K : Int) (x : Nat) (A B C : Nat → Int) (a b : Int) : (apR p n F T G k P m L H V t S K x A B C a b).n ≤ n ∧ (apR p n F T G k P m L H V t S K x A B C a b).k ≤ k ∧ (apR p n F T G k P m L H V t S K x A B C a b).m ≤ m ∧ (apR p n F T G k P m L H V t S K x A B C a b).t ≤ t + 1 := by
  unfold apR
  split
  · unfold apD
    split
    · split <;> simp
    · split <;> simp
  · simp [svZ]
theorem st6 {W : World} {b : Nat} {f : Nat → Value} (h : VHas W b 33 6 f) (p : Int) (v1 v2 v3 : Value) (V : Int) (v5 : Value) : W.grownBy ((((((W.setCell ⟨b, 0, none⟩ (.int .i64 p)).setCell ⟨b, 1, none⟩ v1).setCell ⟨b, 2, none⟩ v2).setCell ⟨b, 3, none⟩ v3).setCell ⟨b, 4, none⟩ (.int .i64 V)).setCell ⟨b, 5, none⟩ v5) (some b) ∧ VHas ((((((W.setCell ⟨b, 0, none⟩ (.int .i64 p)).setCell ⟨b, 1, none⟩ v1).setCell ⟨b, 2, none⟩ v2).setCell ⟨b, 3, none⟩ v3).setCell ⟨b, 4, none⟩ (.int .i64 V)).setCell ⟨b, 5, none⟩ v5) b 33 6 (sv6 p v1 v2 v3 V v5) := by
  refine ⟨?_, ((((((h.set 0 (.int .i64 p)).set 1 v1).set 2 v2).set 3 v3).set 4 (.int .i64 V)).set 5 v5).congr (fun j hj => ?_)⟩
  · exact (((((gr_setCell _ b 0 _).trans (gr_setCell _ b 1 _)).trans (gr_setCell _ b 2 _)).trans (gr_setCell _ b 3 _)).trans (gr_setCell _ b 4 _)).trans (gr_setCell _ b 5 _)
  · have : j = 0 ∨ j = 1 ∨ j = 2 ∨ j = 3 ∨ j = 4 ∨ j = 5 := by omega
    rcases this with rfl | rfl | rfl | rfl | rfl | rfl <;> simp [sv6]
theorem SvM.grS {w w' : World} {ao : Option Addr} {n : Nat} {po : Option Addr} {k : Nat} {eo : Option Addr} {m : Nat} {so : Option Addr} {t : Nat} {F T G P L H : Nat → Int} {S : Nat → ByteArray} (h : SvM w ao n po k eo m so t F T G P L H S) {x : Nat} (hg : w.grownBy w' (some x)) (hx : Typed w x 33) : SvM w' ao n po k eo m so t F T G P L H S :=
  have hx : ∀ y, some x = some y → Typed w y 33 := fun y e => by cases e; exact hx
  ⟨h.a.gr hg hx (by decide), h.i.gr hg hx (by decide), h.e.gr hg hx (by decide), h.s.gr hg hx (by decide), h.wf, h.hn, h.hk, h.hm⟩
theorem AOwnE.grS {w w' : World} {base n cap x : Nat} {ao : Option Addr} (h : AOwnE w base ao n cap) (hg : w.grownBy w' (some x)) (hx : Typed w x 33) : AOwnE w' base ao n cap := by
  obtain ⟨f, hw, h1⟩ := h
  have hG : GOwn w base 67 3 ao n cap (fun j => Value.int .i64 (f j)) := h1
  exact ⟨f, hw, hG.grown hg (fun y e q => typed_ne (hG.typed e) hx (by decide) (by simpa using q.symm))⟩
section
variable {w : World} {base c : Nat} {bo : Option Addr} {bn bc : Nat} {gb : Nat} {p : Int} {go : Option Addr} {k gc : Nat} {sb : Nat} {p2 : Int} {ao : Option Addr} {n cap : Nat} {po : Option Addr} {k2 pc : Nat} {eo : Option Addr} {m ec : Nat} {V : Int} {so : Option Addr} {t sc : Nat} {W W' : World}
theorem DSv.other (h : DSv w base c bo bn bc gb p go k gc sb p2 ao n cap po k2 pc eo m ec V so t sc W) {x : Nat} (hg : W.grownBy W' (some x)) (hx : sb < x) (hT : Typed W x 33) : DSv w base c bo bn bc gb p go k gc sb p2 ao n cap po k2 pc eo m ec V so t sc W' := by
  obtain ⟨F, T, G, P, L, H, S, hr⟩ := h.rows
  have hl := h.lt
  have hge := h.cur.ge
  exact ⟨h.cur.grown hg (by omega) (by omega), h.gbx.grown hg (by simp; omega), h.own.grS hg hT, h.sbx.grown hg (by simp; omega), ⟨F, T, G, P, L, H, S, hr.grS hg hT⟩, h.res.grown hg (by simp; omega), gr_far h.gr hg (fun g e => by cases e; exact Nat.le_refl _) (by omega), h.lt, h.room⟩
theorem DSv.put (h : DSv w base c bo bn bc gb p go k gc sb p2 ao n cap po k2 pc eo m ec V so t sc W) (p3 : Int) (ao3 : Option Addr) (n3 cap3 : Nat) (po3 : Option Addr) (k3 pc3 : Nat) (eo3 : Option Addr) (m3 ec3 : Nat) (V3 : Int) (so3 : Option Addr) (t3 sc3 : Nat) (hroom : m3 ≤ ec3) (hrows : ∃ F T G P L H S, SvM W ao3 n3 po3 k3 eo3 m3 so3 t3 F T G P L H S) : DSv w base c bo bn bc gb p go k gc sb p3 ao3 n3 cap3 po3 k3 pc3 eo3 m3 ec3 V3 so3 t3 sc3 (((((((W.setCell ⟨sb, 0, none⟩ (.int .i64 p3)).setCell ⟨sb, 1, none⟩ (.slice ao3 n3 cap3)).setCell ⟨sb, 2, none⟩ (.slice po3 k3 pc3)).setCell ⟨sb, 3, none⟩ (.slice eo3 m3 ec3)).setCell ⟨sb, 4, none⟩ (.int .i64 V3)).setCell ⟨sb, 5, none⟩ (.slice so3 t3 sc3))) := by
  obtain ⟨hg, hv⟩ := st6 h.sbx p3 (.slice ao3 n3 cap3) (.slice po3 k3 pc3) (.slice eo3 m3 ec3) V3 (.slice so3 t3 sc3)
  obtain ⟨F, T, G, P, L, H, S, hr⟩ := hrows
  have hl := h.lt
  have hge := h.cur.ge
  have hT := h.sbx.typed
  exact ⟨h.cur.grown hg (by omega) (by omega), h.gbx.grown hg (by simp; omega), h.own.grS hg hT, hv, ⟨F, T, G, P, L, H, S, hr.grS hg hT⟩, h.res.grown hg (by simp; omega), gr_far h.gr hg (fun g e => by cases e; exact Nat.le_refl _) (by omega), h.lt, hroom⟩
theorem DSv.putB (h : DSv w base c bo bn bc gb p go k gc sb p2 ao n cap po k2 pc eo m ec V so t sc W) (hg : W.grownBy W' (some sb)) (p3 : Int) (ao3 : Option Addr) (n3 cap3 : Nat) (po3 : Option Addr) (k3 pc3 : Nat) (eo3 : Option Addr) (m3 ec3 : Nat) (V3 : Int) (so3 : Option Addr) (t3 sc3 : Nat) (hroom : m3 ≤ ec3) (hv : VHas W' sb 33 6 (sv6 p3 (.slice ao3 n3 cap3) (.slice po3 k3 pc3) (.slice eo3 m3 ec3) V3 (.slice so3 t3 sc3))) (hrows : ∃ F T G P L H S, SvM W ao3 n3 po3 k3 eo3 m3 so3 t3 F T G P L H S) : DSv w base c bo bn bc gb p go k gc sb p3 ao3 n3 cap3 po3 k3 pc3 eo3 m3 ec3 V3 so3 t3 sc3 W' := by
  obtain ⟨F, T, G, P, L, H, S, hr⟩ := hrows
  have hl := h.lt
  have hge := h.cur.ge
  have hT := h.sbx.typed
  exact ⟨h.cur.grown hg (by omega) (by omega), h.gbx.grown hg (by simp; omega), h.own.grS hg hT, hv, ⟨F, T, G, P, L, H, S, hr.grS hg hT⟩, h.res.grown hg (by simp; omega), gr_far h.gr hg (fun g e => by cases e; exact Nat.le_refl _) (by omega), h.lt, hroom⟩
theorem DSv.set1 (h : DSv w base c bo bn bc gb p go k gc sb p2 ao n cap po k2 pc eo m ec V so t sc W) (j : Nat) (v : Value) (p3 : Int) (ao3 : Option Addr) (n3 cap3 : Nat) (po3 : Option Addr) (k3 pc3 : Nat) (eo3 : Option Addr) (m3 ec3 : Nat) (V3 : Int) (so3 : Option Addr) (t3 sc3 : Nat) (hroom : m3 ≤ ec3) (hf : ∀ i, i < 6 → (if i = j then v else (sv6 p2 (.slice ao n cap) (.slice po k2 pc) (.slice eo m ec) V (.slice so t sc)) i) = (sv6 p3 (.slice ao3 n3 cap3) (.slice po3 k3 pc3) (.slice eo3 m3 ec3) V3 (.slice so3 t3 sc3)) i) (hrows : ∃ F T G P L H S, SvM W ao3 n3 po3 k3 eo3 m3 so3 t3 F T G P L H S) : DSv w base c bo bn bc gb p go k gc sb p3 ao3 n3 cap3 po3 k3 pc3 eo3 m3 ec3 V3 so3 t3 sc3 (W.setCell ⟨sb, j, none⟩ v) := by
  have hg := gr_setCell W sb j v
  obtain ⟨F, T, G, P, L, H, S, hr⟩ := hrows
  have hl := h.lt
  have hge := h.cur.ge
  have hT := h.sbx.typed
  exact ⟨h.cur.grown hg (by omega) (by omega), h.gbx.grown hg (by simp; omega), h.own.grS hg hT, (h.sbx.set j v).congr hf, ⟨F, T, G, P, L, H, S, hr.grS hg hT⟩, h.res.grown hg (by simp; omega), gr_far h.gr hg (fun g e => by cases e; exact Nat.le_refl _) (by omega), h.lt, hroom⟩
end
def DrawnSv (w : World) (base c : Nat) (bo : Option Addr) (bn bc : Nat) (e : Ending) (w' : World) : Prop := ∃ p2 ao n cap po k2 pc eo m ec V so t sc, e = .returned (.agg #[.int .i64 p2, .slice ao n cap, .slice po k2 pc, .slice eo m ec, .int .i64 V, .slice so t sc]) ∧ t ≤ 15 ∧ (∃ F T G P L H S, SvM w' ao n po k2 eo m so t F T G P L H S) ∧ CurAt w' base c bo bn bc ∧ w.grownBy w' (some c)
theorem isSv_ex (p : Int) (n : Nat) (F T G : Nat → Int) (hn : n ≤ 200) : ∃ p' n' M D N L H ok, IsSv p n F T G p' n' M D N L H ok ∧ n' ≤ 200 ∧ M ≤ 24 ∧ N ≤ 1000 := by
  rcases Bool.eq_false_or_eq_true (graphB p n F T G) with h | h
  · exact ⟨p, n, _, _, _, _, _, true, .inl ⟨h, rfl, rfl, rfl, rfl, rfl, rfl, rfl, rfl⟩, hn, lenO_le p n F T G, lenF_le p n F T G _ _⟩
  · exact ⟨0, 0, 0, F, 0, F, F, false, .inr ⟨h, rfl, rfl, rfl, rfl, rfl⟩, by omega, by omega, by omega⟩
theorem SvL.svM {W : World} {ao po eo : Option Addr} {n M N d b c : Nat} {F T G g L H : Nat → Int} {S : Nat → ByteArray} (s : SvL W ao po eo n M N d b c (ar F T G) g (er L H)) (hw : ∀ j, j < n → (Lit.int .i64 (F j)).wf = true ∧ (Lit.int .i64 (T j)).wf = true) (h1 : n ≤ 200) (h2 : M ≤ 24) (h3 : N ≤ 1000) : SvM W ao n po M eo N none 0 F T G g L H S :=
  ⟨TRow.rowT (fun h => ⟨d, s.ea (by omega), (s.ha (by omega) : VHas W d 67 (n * 3) (fun j => Value.int .i64 (ar F T G j)))⟩),
   TRow.rowT (fun h => ⟨b, s.ei (by omega), by have := s.hi (by omega); rw [Nat.mul_one]; exact (this : VHas W b 2 M (fun j => Value.int .i64 (g j)))⟩),
   TRow.rowT (fun h => ⟨c, s.ee (by omega), (s.he (by omega) : VHas W c 94 (N * 2) (fun j => Value.int .i64 (er L H j)))⟩), RowT.none (by omega), hw, h1, h2, h3⟩
set_option maxRecDepth 100000 in
set_option maxHeartbeats 8000000 in
theorem l8DrawService_any (base c : Nat) (bo : Option Addr) (bn bc : Nat) (w : World) (hC : CurAt w base c bo bn bc) :
    Calls Tryz.prog 20 #[.pointer (some ⟨c, 0, none⟩)] w fun e w' => DrawnSv w base c bo bn bc e w' := by
  have hcl := hC.lt
  have hal : Below w.heap.size w (w.alloc (.cells #[.int .i64 0, .slice none 0 0, .slice none 0 0, .slice none 0 0, .int .i64 0, .slice none 0 0] 33)) := (Below.refl _ _).alloc nl _
  have v0 := sv6_new w 0 (.slice none 0 0) (.slice none 0 0) (.slice none 0 0) 0 (.slice none 0 0) 33
  have hC0 := hC.next hal
  have hgr0 := below_grown (row := some c) hal
  go_enter Tryz.func20, Tryz.ntmps20
  go_wp2_with fail
  have hs0 : (w.alloc (.cells #[.int .i64 0, .slice none 0 0, .slice none 0 0, .slice none 0 0, .int .i64 0, .slice none 0 0] 33)).heap.size = w.heap.size + 1 := by simp
  generalize (w.alloc (.cells #[.int .i64 0, .slice none 0 0, .slice none 0 0, .slice none 0 0, .int .i64 0, .slice none 0 0] 33)) = w0 at hal v0 hC0 hgr0 hs0 ⊢
  refine (l1Draw_any base c bo bn bc _ hC0).mono ?_
  rintro e w1 ⟨p, go, k, gc, rfl, hp, hk, hO1, hC1, hg1⟩
  have v1 := v0.grown hg1 (by simp; omega)
  have hs1 := hg1.size
  have hal1 := (Below.refl w1.heap.size w1).alloc nl (.cells #[.int .i64 (p : Int), .slice go k gc] 26)
  have hgr1 := (hgr0.trans hg1).trans (below_grown (row := some c) hal1)
  have gx := gb2_new w1 p (.slice go k gc) 26
  replace v1 := v1.next hal1
  replace hC1 := hC1.next hal1
  replace hO1 := hO1.next hal1
  have hs1a : (w1.alloc (.cells #[.int .i64 (p : Int), .slice go k gc] 26)).heap.size = w1.heap.size + 1 := by simp
  clear hC0 v0 hal hgr0 hg1 hal1
  obtain ⟨u0, u1⟩ := gx.c2
  simp [gb2] at u0 u1
  go_wp2_with fail
  generalize (w1.alloc (.cells #[.int .i64 (p : Int), .slice go k gc] 26)) = W1 at v1 hC1 hO1 hgr1 gx hs1a ⊢
  generalize hgb : w1.heap.size = gb at gx hs1a ⊢
  clear u0 u1
  obtain ⟨F, T, G, hr, hwf, _⟩ := hO1.rowW
  obtain ⟨p2, n2, M, D, N, L, H, ok, hres, hn2, hM2, hN2⟩ := isSv_ex p k F T G (by omega)
  refine (specNewService_cap p go k gc F T G (by omega) _ hr p2 n2 M N D L H ok hres).mono ?_
  rintro e w2 ⟨ao, cap, po, pc, eo, ec, d, b, cc, rfl, hL, hbd, hb2, hroom⟩
  have hs2 := hb2.size
  have hal2 := (Below.refl w2.heap.size w2).alloc nl (.cells #[.int .i64 p2, .slice ao n2 cap, .slice po M pc, .slice eo N ec, .int .i64 0, .slice none 0 0] 33)
  have hD : DSv w base c bo bn bc gb p go k gc w2.heap.size p2 ao n2 cap po M pc eo N ec 0 none 0 0 (w2.alloc (.cells #[.int .i64 p2, .slice ao n2 cap, .slice po M pc, .slice eo N ec, .int .i64 0, .slice none 0 0] 33)) :=
    ⟨(hC1.next hb2).next hal2, (gx.next hb2).next hal2, ((hO1.next hb2).next hal2).from (by omega), sv6_new w2 p2 (.slice ao n2 cap) (.slice po M pc) (.slice eo N ec) 0 (.slice none 0 0) 33, ⟨F, T, G, D, L, H, fun _ => default, (hL.next hal2).svM (fun j hj => hwf j (by rcases hres with ⟨_, _, e, _⟩ | ⟨_, _, e, _⟩ <;> omega)) hn2 hM2 hN2⟩, (v1.next hb2).next hal2, (hgr1.trans (below_grown (row := some c) hb2)).trans (below_grown (row := some c) hal2), by have := gx.lt; omega, hroom⟩
  clear hal2 hL hbd hb2 hres hC1 gx hO1 v1 hgr1 hwf hr hs1 hs1a hs0 hgb
  go_wp2_with fail
  generalize (w2.alloc (.cells #[.int .i64 p2, .slice ao n2 cap, .slice po M pc, .slice eo N ec, .int .i64 0, .slice none 0 0] 33)) = W2 at hD ⊢
  generalize w2.heap.size = sb at hD ⊢
  refine (l1Below_any _ c bo bn bc 5 (by omega) (by omega) _ hD.cur).mono ?_
  rintro e w3 ⟨x, rfl, hx, hC3, hg3⟩
  replace hD := hD.step hC3 hg3
  clear hC3 hg3 hn2 hM2 hN2
  have hD0 : ∃ V so t sc p2 ao n cap po k2 pc eo m ec, t ≤ 10 ∧ DSv w base c bo bn bc gb p go k gc sb p2 ao n cap po k2 pc eo m ec V so t sc w3 := ⟨_, _, _, _, _, _, _, _, _, _, _, _, _, _, by omega, hD⟩
  clear hD
  go_wp2
  go_loopw [6, 7] (fun i u wr => ∃ j : Nat, j ≤ 4 ∧ i = .int .i64 j ∧ ∃ V so t sc p2 ao n cap po k2 pc eo m ec, t + j ≤ 14 ∧ DSv w base c bo bn bc gb p go k gc sb p2 ao n cap po k2 pc eo m ec V so t sc wr) (fun i _ _ => (intOf i).toNat)
  case atStart =>
    obtain ⟨V, so, t, sc, p2, ao, n, cap, po, k2, pc, eo, m, ec, ht, hD⟩ := hD0
    exact ⟨x, by omega, rfl, V, so, t, sc, p2, ao, n, cap, po, k2, pc, eo, m, ec, by omega, hD⟩
  case round =>
    clear hD0
    obtain ⟨j, hj, rfl, V, so, t, sc, p2, ao, n, cap, po, k2, pc, eo, m, ec, ht, hD⟩ := hrel
    by_cases hj0 : 0 < j
    · have hj1 : (0 : Int) < (j : Int) := by omega
      go_wp2_with fail
      have hd : Below wr.heap.size wr wr.drew := (Below.refl _ _).drew
      replace hD := hD.next hd
      have hlt := hD.lt
      refine region_store (by kernel_rfl) (by kernel_rfl) (by kernel_rfl) (RC base c bo bn bc) RC.refl RC.trans
        [fun v _ => v = .agg #[.int .i64 p2, .slice ao n cap, .slice po k2 pc, .slice eo m ec, .int .i64 V, .slice so t sc], fun v _ => v = .pointer (some ⟨c, 0, none⟩), fun v _ => v = .agg #[.int .i64 p, .slice go k gc], CmE base c bo bn bc, SvE base c bo bn bc (t + 1), BxE c (sb + 1)]
        ⟨fun _ _ _ h _ => h, fun _ _ _ h _ => h, fun _ _ _ h _ => h, fun _ _ _ h k => h.rc k, fun _ _ _ h k => h.rc k, fun _ _ _ h k => h.rc k, trivial⟩ rfl ?_ _ rfl rfl rfl
        (fun v w'' => (v 0 = .agg #[.int .i64 p2, .slice ao n cap, .slice po k2 pc, .slice eo m ec, .int .i64 V, .slice so t sc] ∧ v 1 = .pointer (some ⟨c, 0, none⟩) ∧ v 2 = .agg #[.int .i64 p, .slice go k gc]) ∧ ∃ p3 ao3 n3 cap3 po3 k3 pc3 eo3 m3 ec3 V3 so3 t3 sc3 bx, v 4 = .agg #[.int .i64 p3, .slice ao3 n3 cap3, .slice po3 k3 pc3, .slice eo3 m3 ec3, .int .i64 V3, .slice so3 t3 sc3] ∧ v 5 = .pointer (some ⟨bx, 0, none⟩) ∧ (t3 ≤ t + 1 ∧ m3 ≤ ec3) ∧ sb < bx ∧ DSv w base c bo bn bc gb p go k gc sb p2 ao n cap po k2 pc eo m ec V so t sc w'' ∧ VHas w'' bx 33 6 (sv6 p3 (.slice ao3 n3 cap3) (.slice po3 k3 pc3) (.slice eo3 m3 ec3) V3 (.slice so3 t3 sc3)) ∧ ∃ F T G P L H S, SvM w'' ao3 n3 po3 k3 eo3 m3 so3 t3 F T G P L H S) ?_ ?_
      · simp only [List.size_toArray, List.length_cons, List.length_nil, Nat.reduceAdd, Nat.reduceSub, List.take_succ_cons, List.take_zero]
        refine allOk_cons ?_ (allOk_cons ?_ (allOk_cons ?_ (allOk_cons ?_ (allOk_cons ?_ (allOk_cons ?_ allOk_nil)))))
        · refine OpOk.val rfl fun ev w' v hR E pr => ?_
          have e4 : ev (.tmp 4) = .pointer (some ⟨sb, 0, none⟩) := E.old 4 (by kernel_rfl)
          have hD' := hD.rc hR
          obtain ⟨s0, s1, s2, s3, s4, s5⟩ := hD'.sbx.c6
          obtain ⟨g0, g1⟩ := hD'.gbx.c2
          simp [sv6, gb2] at s0 s1 s2 s3 s4 s5 g0 g1
          exact ⟨.agg #[.int .i64 p2, .slice ao n cap, .slice po k2 pc, .slice eo m ec, .int .i64 V, .slice so t sc], w', by simp [go_sem, e4, s0, s1, s2, s3, s4, s5], RC.refl _, rfl⟩
        · refine OpOk.val rfl fun ev w' v hR E pr => ?_
          have e0 : ev (.tmp 0) = .pointer (some ⟨c, 0, none⟩) := E.old 0 (by kernel_rfl)
          exact ⟨.pointer (some ⟨c, 0, none⟩), w', by simp [go_sem, e0], RC.refl _, rfl⟩
        · refine OpOk.val rfl fun ev w' v hR E pr => ?_
          have e3 : ev (.tmp 3) = .pointer (some ⟨gb, 0, none⟩) := E.old 3 (by kernel_rfl)
          have hD' := hD.rc hR
          obtain ⟨s0, s1, s2, s3, s4, s5⟩ := hD'.sbx.c6
          obtain ⟨g0, g1⟩ := hD'.gbx.c2
          simp [sv6, gb2] at s0 s1 s2 s3 s4 s5 g0 g1
          exact ⟨.agg #[.int .i64 p, .slice go k gc], w', by simp [go_sem, e3, g0, g1], RC.refl _, rfl⟩
        · refine OpOk.call rfl fun ev w' v hR E pr => ?_
          have e22 := E.at_ 1 22 rfl (by kernel_rfl) (Nat.le_of_ble_eq_true (by kernel_rfl))
          have e23 := E.at_ 2 23 rfl (by kernel_rfl) (Nat.le_of_ble_eq_true (by kernel_rfl))
          have p1 : v 1 = .pointer (some ⟨c, 0, none⟩) := pr 1 (by decide) (by kernel_rfl)
          have p2 : v 2 = .agg #[.int .i64 p, .slice go k gc] := pr 2 (by decide) (by kernel_rfl)
          rw [p1] at e22
          rw [p2] at e23
          have hD' := hD.rc hR
          refine ⟨50, #[.pointer (some ⟨c, 0, none⟩), .agg #[.int .i64 p, .slice go k gc]], by simp [go_sem, e22, e23, E.fn], (l8Draw_any base c bo bn bc p go k gc (by omega) _ hD'.cur (hD'.own.from (by omega)).arcsE).mono ?_⟩
          rintro e w2 ⟨K, xo, x, xc, a, b, rfl, hK, hx, hO, hC, hg⟩
          obtain ⟨A, B, C, hrw, _⟩ := hO.rowT
          exact ⟨_, rfl, RC.drawn hg hC, hC, K, xo, x, xc, a, b, rfl, by omega, A, B, C, hrw⟩
        · refine OpOk.call rfl fun ev w' v hR E pr => ?_
          have e21 := E.at_ 0 21 rfl (by kernel_rfl) (Nat.le_of_ble_eq_true (by kernel_rfl))
          have e24 := E.at_ 3 24 rfl (by kernel_rfl) (Nat.le_of_ble_eq_true (by kernel_rfl))
          have p0 : v 0 = .agg #[.int .i64 p2, .slice ao n cap, .slice po k2 pc, .slice eo m ec, .int .i64 V, .slice so t sc] := pr 0 (by decide) (by kernel_rfl)
          have p3 : CmE base c bo bn bc (v 3) w' := pr 3 (by decide) (by kernel_rfl)
          obtain ⟨hC, K, xo, x, xc, aa, bb, q3, hx, A, B, C, hrw⟩ := p3
          rw [p0] at e21
          rw [q3] at e24
          have hD' := hD.rc hR
          obtain ⟨F, T, G, P, L, H, S, hrows⟩ := hD'.rows
          have hn := hrows.hn
          have hk2 := hrows.hk
          have hm := hrows.hm
          clear p0 q3 pr
          refine ⟨8, #[.agg #[.int .i64 p2, .slice ao n cap, .slice po k2 pc, .slice eo m ec, .int .i64 V, .slice so t sc], .agg #[.int .i64 K, .slice xo x xc, .int .i64 aa, .int .i64 bb]], by simp [go_sem, e21, e24, E.fn], (specApply_t p2 ao n cap F T G po k2 pc P eo m ec L H V so t sc S K aa bb xo x xc A B C (by omega) (by omega) (by omega) (by omega) (by omega) _ hrows.ra hrows.ri hrows.re hrows.rs hrw.arcs).mono ?_⟩
          rintro e w2 ⟨ao', cap', poN, pcN, eoN, ecN, so', sc', rfl, q1, q2, q3, q4, q5⟩
          obtain ⟨b1, b2, b3, b4⟩ := apR_b p2 n F T G k2 P m L H V t S K x A B C aa bb
          have hC2 := hC.next q5
          generalize apR p2 n F T G k2 P m L H V t S K x A B C aa bb = r at *
          exact ⟨_, rfl, RC.below q5, hC2, r.p, ao', r.n, cap', poN, r.k, pcN, eoN, r.m, ecN, r.V, so', r.t, sc', rfl, ⟨b4, q3.room⟩, F, T, r.G, P, L, H, r.S, ⟨q1.rowT, q2.rowT, q3.tr.rowT, q4.rowT, fun j hj => hrows.wf j (by omega), by omega, by omega, by omega⟩⟩
        · refine OpOk.val rfl fun ev w' v hR E pr => ?_
          have hD' := hD.rc hR
          have hl := hD'.sbx.lt
          exact ⟨.pointer (some ⟨w'.heap.size, 0, none⟩), w'.alloc (.cells #[.int .i64 0, .slice none 0 0, .slice none 0 0, .slice none 0 0, .int .i64 0, .slice none 0 0] 33), by simp [go_sem], RC.below ((Below.refl w'.heap.size w').alloc nl _), w'.heap.size, rfl, by omega, by omega, sv6_new w' 0 (.slice none 0 0) (.slice none 0 0) (.slice none 0 0) 0 (.slice none 0 0) 33⟩
      · intro ev w' v hR E hp
        have p0 := hp.1
        have p1 := hp.2.1
        have p2' := hp.2.2.1
        have p4 := hp.2.2.2.2.1
        have p5 := hp.2.2.2.2.2.1
        obtain ⟨hC4, p3, ao3, n3, cap3, po3, k3, pc3, eo3, m3, ec3, V3, so3, t3, sc3, e4, ht3, F, T, G, P, L, H, S, hrows⟩ := p4
        obtain ⟨bx, e5, hb1, hb2, vX⟩ := p5
        have E7 := E.at_ 5 7 rfl (by kernel_rfl) (Nat.le_of_ble_eq_true (by kernel_rfl))
        have E25 := E.at_ 4 25 rfl (by kernel_rfl) (Nat.le_of_ble_eq_true (by kernel_rfl))
        rw [e5] at E7
        rw [e4] at E25
        replace hD := hD.rc hR
        obtain ⟨x0, x1, x2, x3, x4, x5⟩ := vX.c6
        obtain ⟨y0, y1, y2, y3, y4, y5⟩ := vX.z6
        simp [sv6] at x0 x1 x2 x3 x4 x5
        refine ⟨((((((w'.setCell ⟨bx, 0, none⟩ (.int .i64 p3)).setCell ⟨bx, 1, none⟩ (.slice ao3 n3 cap3)).setCell ⟨bx, 2, none⟩ (.slice po3 k3 pc3)).setCell ⟨bx, 3, none⟩ (.slice eo3 m3 ec3)).setCell ⟨bx, 4, none⟩ (.int .i64 V3)).setCell ⟨bx, 5, none⟩ (.slice so3 t3 sc3)), by simp [go_sem, E7, E25, x0, x1, x2, x3, x4, x5, y0, y1, y2, y3, y4, y5], ⟨p0, p1, p2'⟩, p3, ao3, n3, cap3, po3, k3, pc3, eo3, m3, ec3, V3, so3, t3, sc3, bx, e4, e5, ht3, by omega, ?_, ?_, ?_⟩
        · exact hD.other (st6 vX p3 (.slice ao3 n3 cap3) (.slice po3 k3 pc3) (.slice eo3 m3 ec3) V3 (.slice so3 t3 sc3)).1 (by omega) vX.typed
        · exact (st6 vX p3 (.slice ao3 n3 cap3) (.slice po3 k3 pc3) (.slice eo3 m3 ec3) V3 (.slice so3 t3 sc3)).2
        · exact ⟨F, T, G, P, L, H, S, hrows.grS (st6 vX p3 (.slice ao3 n3 cap3) (.slice po3 k3 pc3) (.slice eo3 m3 ec3) V3 (.slice so3 t3 sc3)).1 vX.typed⟩
      · intro v w'' hF
        obtain ⟨⟨p0, p1, p2'⟩, p3, ao3, n3, cap3, po3, k3, pc3, eo3, m3, ec3, V3, so3, t3, sc3, bx, e4, e5, ht3, hbx, hD, vX, hrows⟩ := hF
        simp only [List.size_toArray, List.length_cons, List.length_nil, Nat.reduceAdd, Nat.reduceSub, List.take_succ_cons, List.take_zero, putL, e4, e5, p0, p1, p2', Act.put, List.setIfInBounds_toArray, List.set_cons_zero, List.set_cons_succ]
        clear p0 p1 p2' e4 e5
        obtain ⟨x0, x1, x2, x3, x4, x5⟩ := vX.c6
        simp [sv6] at x0 x1 x2 x3 x4 x5
        go_wp2_with fail
        obtain ⟨F, T, G, P, L, H, S, hrw⟩ := hrows
        have hn3 := hrw.hn
        have hk3 := hrw.hk
        have hm3 := hrw.hm
        clear x0 x1 x2 x3 x4 x5
        refine (specServiceOk_any p3 ao3 n3 cap3 F T G po3 k3 pc3 P eo3 m3 ec3 L H V3 so3 t3 sc3 S (by omega) (by omega) (by omega) (by omega) _ hrw.ra hrw.ri hrw.re).mono ?_
        rintro e w5 ⟨⟨bb, rfl, _⟩, hb5⟩
        replace hD := hD.next hb5
        replace vX := vX.next hb5
        replace hrw := hrw.next hb5
        clear hb5
        cases bb
        · go_wp2
          go_roundw
          case rel => exact ⟨j - 1, by omega, by go_num, V, so, t, sc, p2, ao, n, cap, po, k2, pc, eo, m, ec, by omega, hD⟩
          case measure => simp [intOf]; omega
        · have x0 := vX.cell (j := 0) (by omega)
          have x1 := vX.cell (j := 1) (by omega)
          have x2 := vX.cell (j := 2) (by omega)
          have x3 := vX.cell (j := 3) (by omega)
          have x4 := vX.cell (j := 4) (by omega)
          have x5 := vX.cell (j := 5) (by omega)
          simp [sv6] at x0 x1 x2 x3 x4 x5
          have hsT := hD.sbx
          go_wp2_with (refine wpList_store_box rfl 33 (.tmp 4) (.tmp 28) rfl rfl sb [.int .i64 p3, .slice ao3 n3 cap3, .slice po3 k3 pc3, .slice eo3 m3 ec3, .int .i64 V3, .slice so3 t3 sc3] (by simp [go_sem]) (by simp [go_sem]) hsT (by kernel_rfl) (by intro v hv; simp at hv; rcases hv with rfl | rfl | rfl | rfl | rfl | rfl <;> rfl) ?_; intro W6 hv6 hg6)
          have hD2 := hD.putB hg6 p3 ao3 n3 cap3 po3 k3 pc3 eo3 m3 ec3 V3 so3 t3 sc3 ht3.2 (hv6.congr (fun i hi => by have : i = 0 ∨ i = 1 ∨ i = 2 ∨ i = 3 ∨ i = 4 ∨ i = 5 := (by simp at hi; omega); rcases this with rfl | rfl | rfl | rfl | rfl | rfl <;> rfl)) ⟨F, T, G, P, L, H, S, hrw⟩
          clear hv6 hg6 hsT hD vX hrw x0 x1 x2 x3 x4 x5
          go_wp2
          go_roundw
          case rel => exact ⟨j - 1, by omega, by go_num, V3, so3, t3, sc3, p3, ao3, n3, cap3, po3, k3, pc3, eo3, m3, ec3, by omega, hD2⟩
          case measure => simp [intOf]; omega
    · obtain rfl : j = 0 := by omega
      go_wp2_with fail
      refine (l1Once_any _ c bo bn bc 12 (by omega) (by omega) _ hD.cur).mono ?_
      rintro e w6 ⟨b6, rfl, hC6, hg6⟩
      replace hD := hD.step hC6 hg6
      clear hC6 hg6
      cases b6
      · have s0 := hD.sbx.cell (j := 0) (by omega)
        have s1 := hD.sbx.cell (j := 1) (by omega)
        have s2 := hD.sbx.cell (j := 2) (by omega)
        have s3 := hD.sbx.cell (j := 3) (by omega)
        have s4 := hD.sbx.cell (j := 4) (by omega)
        have s5 := hD.sbx.cell (j := 5) (by omega)
        simp [sv6] at s0 s1 s2 s3 s4 s5
        have hsR := hD.res
        go_wp2_with (refine wpList_store_box rfl 33 (.tmp 2) (.tmp 59) rfl rfl w.heap.size [.int .i64 p2, .slice ao n cap, .slice po k2 pc, .slice eo m ec, .int .i64 V, .slice so t sc] (by simp [go_sem]) (by simp [go_sem]) hsR (by kernel_rfl) (by intro v hv; simp at hv; rcases hv with rfl | rfl | rfl | rfl | rfl | rfl <;> rfl) ?_; intro W9 hv9 hg9)
        have q0 := hv9.cell (j := 0) (by simp)
        have q1 := hv9.cell (j := 1) (by simp)
        have q2 := hv9.cell (j := 2) (by simp)
        have q3 := hv9.cell (j := 3) (by simp)
        have q4 := hv9.cell (j := 4) (by simp)
        have q5 := hv9.cell (j := 5) (by simp)
        simp [lf] at q0 q1 q2 q3 q4 q5
        obtain ⟨F, T, G, P, L, H, S, hrw⟩ := hD.rows
        have hlt := hD.lt
        have hge := hD.cur.ge
        have o1 := hrw.grS hg9 hsR.typed
        have o2 := hD.cur.grown hg9 (by omega) (by omega)
        have o3 := gr_far hD.gr hg9 (fun g e => by cases e; exact Nat.le_refl _) nl
        clear hv9 hg9 hsR hD hrw s0 s1 s2 s3 s4 s5
        go_wp2
        exact bodyPost_ret (v := .agg #[.int .i64 p2, .slice ao n cap, .slice po k2 pc, .slice eo m ec, .int .i64 V, .slice so t sc]) (by simp [results, Tryz.results20, go_sem, q0, q1, q2, q3, q4, q5]) rfl ⟨p2, ao, n, cap, po, k2, pc, eo, m, ec, V, so, t, sc, rfl, by omega, ⟨F, T, G, P, L, H, S, o1⟩, o2, o3⟩
      · go_wp2_with fail
        refine (l1Below_any _ c bo bn bc 3 (by omega) (by omega) _ hD.cur).mono ?_
        rintro e w7 ⟨x7, rfl, hx7, hC7, hg7⟩
        replace hD := hD.step hC7 hg7
        clear hC7 hg7
        have hx9 : x7 = 0 ∨ x7 = 1 ∨ x7 = 2 := by omega
        rcases hx9 with rfl | rfl | rfl
        · go_wp2_with fail
          refine (l1DrawAny_any _ c bo bn bc _ hD.cur).mono ?_
          rintro e w8 ⟨p8, go8, k8, gc8, rfl, hk8, hO8, hC8, hg8⟩
          replace hD := hD.step hC8 hg8
          clear hC8 hg8
          have hsT := hD.sbx
          obtain ⟨F8, T8, G8, hr8, hw8⟩ := hO8.rowT
          obtain ⟨F, T, G, P, L, H, S, hrw⟩ := hD.rows
          go_wp2_with (first | (refine wpList_store_part rfl 26 _ _ rfl rfl sb [.int .i64 p8, .slice go8 k8 gc8] (by simp [go_sem]) (by simp [go_sem]) hsT (by simp) (by kernel_rfl) (by intro v hv; simp at hv; rcases hv with rfl | rfl <;> rfl) ?_; intro W6 hv6 hg6; clear hsT; replace hD := hD.putB hg6 p8 go8 k8 gc8 po k2 pc eo m ec V so t sc hD.room (hv6.congr (fun i hi => by have : i = 0 ∨ i = 1 ∨ i = 2 ∨ i = 3 ∨ i = 4 ∨ i = 5 := (by omega); rcases this with rfl | rfl | rfl | rfl | rfl | rfl <;> rfl)) ⟨F8, T8, G8, P, L, H, S, ⟨hr8, hrw.i, hrw.e, hrw.s, hw8, hk8, hrw.hk, hrw.hm⟩⟩; clear hv6 hg6 hrw hr8 hO8; obtain ⟨s0, s1, s2, s3, s4, s5⟩ := hD.sbx.c6; simp [sv6] at s0 s1 s2 s3 s4 s5; have hsR := hD.res) | (refine wpList_store_box rfl 33 (.tmp 2) (.tmp 59) rfl rfl w.heap.size [.int .i64 p8, .slice go8 k8 gc8, .slice po k2 pc, .slice eo m ec, .int .i64 V, .slice so t sc] (by simp [go_sem]) (by simp [go_sem]) hsR (by kernel_rfl) (by intro v hv; simp at hv; rcases hv with rfl | rfl | rfl | rfl | rfl | rfl <;> rfl) ?_; intro W9 hv9 hg9))
          have q0 := hv9.cell (j := 0) (by simp)
          have q1 := hv9.cell (j := 1) (by simp)
          have q2 := hv9.cell (j := 2) (by simp)
          have q3 := hv9.cell (j := 3) (by simp)
          have q4 := hv9.cell (j := 4) (by simp)
          have q5 := hv9.cell (j := 5) (by simp)
          simp [lf] at q0 q1 q2 q3 q4 q5
          obtain ⟨F, T, G, P, L, H, S, hrw⟩ := hD.rows
          have hlt := hD.lt
          have hge := hD.cur.ge
          have o1 := hrw.grS hg9 hsR.typed
          have o2 := hD.cur.grown hg9 (by omega) (by omega)
          have o3 := gr_far hD.gr hg9 (fun g e => by cases e; exact Nat.le_refl _) nl
          clear hv9 hg9 hsR hD hrw s0 s1 s2 s3 s4 s5
          go_wp2
          exact bodyPost_ret (v := .agg #[.int .i64 p8, .slice go8 k8 gc8, .slice po k2 pc, .slice eo m ec, .int .i64 V, .slice so t sc]) (by simp [results, Tryz.results20, go_sem, q0, q1, q2, q3, q4, q5]) rfl ⟨p8, go8, k8, gc8, po, k2, pc, eo, m, ec, V, so, t, sc, rfl, by omega, ⟨F, T, G, P, L, H, S, o1⟩, o2, o3⟩
        · have hal := (Below.refl w7.heap.size w7).alloc nl (.cells #[.int .i64 (-1), .int .i64 100000, .int .i64 100001] 2)
          have hlb : (w7.alloc (.cells #[.int .i64 (-1), .int .i64 100000, .int .i64 100001] 2)).heap[w7.heap.size]? = some (.cells #[.int .i64 (-1), .int .i64 100000, .int .i64 100001] 2) := Go.Deep.blk_alloc_new _ _
          have hsl7 := hD.sbx.lt
          replace hD := hD.next hal
          have hsz7 : (w7.alloc (.cells #[.int .i64 (-1), .int .i64 100000, .int .i64 100001] 2)).heap.size = w7.heap.size + 1 := by simp
          have hcl7 := hD.lt
          go_wp2_with fail
          generalize (w7.alloc (.cells #[.int .i64 (-1), .int .i64 100000, .int .i64 100001] 2)) = W7 at hD hlb hsz7 hsl7 ⊢
          generalize hlb9 : w7.heap.size = lb at hlb hsz7 ⊢
          clear hal
          refine (l1Below_any _ c bo bn bc 3 (by omega) (by omega) _ hD.cur).mono ?_
          rintro e w8 ⟨x8, rfl, hx8, hC8, hg8⟩
          replace hlb := (hg8.block lb (by omega) (by simp; omega)).trans hlb
          replace hD := hD.step hC8 hg8
          clear hC8 hg8 hsz7 hsl7 hlb9
          obtain ⟨v9, hv9⟩ : ∃ v, w8.cell? ⟨lb, x8, none⟩ = some (.int .i64 v) := by
            have : x8 = 0 ∨ x8 = 1 ∨ x8 = 2 := by omega
            rcases this with rfl | rfl | rfl <;> exact ⟨_, by simp [World.cell?, hlb]; rfl⟩
          have hx81 : (0 : Int) ≤ (x8 : Int) := by omega
          have hx82 : (x8 : Int) < 3 := by omega
          have r4 : w8.cell? ⟨sb, 4, none⟩ = some (.int .i64 V) := hD.sbx.cell (j := 4) (by omega)
          have z4 := hD.sbx.frozen 4
          clear hlb
          replace hD := hD.set1 4 (.int .i64 v9) p2 ao n cap po k2 pc eo m ec v9 so t sc hD.room (fun i hi => by have : i = 0 ∨ i = 1 ∨ i = 2 ∨ i = 3 ∨ i = 4 ∨ i = 5 := (by omega); rcases this with rfl | rfl | rfl | rfl | rfl | rfl <;> rfl) hD.rows
          obtain ⟨s0, s1, s2, s3, s4, s5⟩ := hD.sbx.c6
          simp [sv6] at s0 s1 s2 s3 s4 s5
          have hsR := hD.res
          go_wp2_with (refine wpList_store_box rfl 33 (.tmp 2) (.tmp 59) rfl rfl w.heap.size [.int .i64 p2, .slice ao n cap, .slice po k2 pc, .slice eo m ec, .int .i64 v9, .slice so t sc] (by simp [go_sem]) (by simp [go_sem]) hsR (by kernel_rfl) (by intro v hv; simp at hv; rcases hv with rfl | rfl | rfl | rfl | rfl | rfl <;> rfl) ?_; intro W9 hv9 hg9)
          have q0 := hv9.cell (j := 0) (by simp)
          have q1 := hv9.cell (j := 1) (by simp)
          have q2 := hv9.cell (j := 2) (by simp)
          have q3 := hv9.cell (j := 3) (by simp)
          have q4 := hv9.cell (j := 4) (by simp)
          have q5 := hv9.cell (j := 5) (by simp)
          simp [lf] at q0 q1 q2 q3 q4 q5
          obtain ⟨F, T, G, P, L, H, S, hrw⟩ := hD.rows
          have hlt := hD.lt
          have hge := hD.cur.ge
          have o1 := hrw.grS hg9 hsR.typed
          have o2 := hD.cur.grown hg9 (by omega) (by omega)
          have o3 := gr_far hD.gr hg9 (fun g e => by cases e; exact Nat.le_refl _) nl
          clear r4 z4 hv9 hg9 hsR hD hrw s0 s1 s2 s3 s4 s5
          go_wp2
          exact bodyPost_ret (v := .agg #[.int .i64 p2, .slice ao n cap, .slice po k2 pc, .slice eo m ec, .int .i64 v9, .slice so t sc]) (by simp [results, Tryz.results20, go_sem, q0, q1, q2, q3, q4, q5]) rfl ⟨p2, ao, n, cap, po, k2, pc, eo, m, ec, v9, so, t, sc, rfl, by omega, ⟨F, T, G, P, L, H, S, o1⟩, o2, o3⟩
        · have s3 : w7.cell? ⟨sb, 3, none⟩ = some (.slice eo m ec) := hD.sbx.cell (j := 3) (by omega)
          have z3 := hD.sbx.frozen 3
          by_cases hm0 : 0 < m
          · have hm1 : (0 : Int) < (m : Int) := by omega
            obtain ⟨F, T, G, P, L, H, S, hrw⟩ := hD.rows
            obtain ⟨be, oe, rfl, hte, hce⟩ := hrw.e (by omega)
            have hroom := hD.room
            have hm2 : (1 : Int) ≤ (m : Int) := by omega
            have hm3 : (m : Int) ≤ (ec : Int) := by omega
            by_cases hec : ec = 1
            · obtain rfl : m = 1 := by omega
              subst hec
              clear hm1 hm2 hm3 hm0
              replace hD := hD.set1 3 (.slice (some ⟨be, oe, none⟩) 0 0) p2 ao n cap po k2 pc (some ⟨be, oe, none⟩) 0 0 V so t sc nl (fun i hi => by have : i = 0 ∨ i = 1 ∨ i = 2 ∨ i = 3 ∨ i = 4 ∨ i = 5 := (by omega); rcases this with rfl | rfl | rfl | rfl | rfl | rfl <;> rfl) ⟨F, T, G, P, L, H, S, ⟨hrw.a, hrw.i, RowT.none (by omega), hrw.s, hrw.wf, hrw.hn, hrw.hk, by omega⟩⟩
              have x3 := s3
              clear s3 hroom
              obtain ⟨s0, s1, s2, s3, s4, s5⟩ := hD.sbx.c6
              simp [sv6] at s0 s1 s2 s3 s4 s5
              have hsR := hD.res
              go_wp2_with (refine wpList_store_box rfl 33 (.tmp 2) (.tmp 59) rfl rfl w.heap.size [.int .i64 p2, .slice ao n cap, .slice po k2 pc, .slice (some ⟨be, oe, none⟩) 0 0, .int .i64 V, .slice so t sc] (by simp [go_sem]) (by simp [go_sem]) hsR (by kernel_rfl) (by intro v hv; simp at hv; rcases hv with rfl | rfl | rfl | rfl | rfl | rfl <;> rfl) ?_; intro W9 hv9 hg9)
              have q0 := hv9.cell (j := 0) (by simp)
              have q1 := hv9.cell (j := 1) (by simp)
              have q2 := hv9.cell (j := 2) (by simp)
              have q3 := hv9.cell (j := 3) (by simp)
              have q4 := hv9.cell (j := 4) (by simp)
              have q5 := hv9.cell (j := 5) (by simp)
              simp [lf] at q0 q1 q2 q3 q4 q5
              obtain ⟨F, T, G, P, L, H, S, hrw⟩ := hD.rows
              have hlt := hD.lt
              have hge := hD.cur.ge
              have o1 := hrw.grS hg9 hsR.typed
              have o2 := hD.cur.grown hg9 (by omega) (by omega)
              have o3 := gr_far hD.gr hg9 (fun g e => by cases e; exact Nat.le_refl _) nl
              clear hv9 hg9 hsR hD hrw s0 s1 s2 s3 s4 s5 x3 z3
              go_wp2
              exact bodyPost_ret (v := .agg #[.int .i64 p2, .slice ao n cap, .slice po k2 pc, .slice (some ⟨be, oe, none⟩) 0 0, .int .i64 V, .slice so t sc]) (by simp [results, Tryz.results20, go_sem, q0, q1, q2, q3, q4, q5]) rfl ⟨_, _, _, _, _, _, _, _, _, _, _, _, _, _, rfl, by omega, ⟨F, T, G, P, L, H, S, o1⟩, o2, o3⟩
            · replace hD := hD.set1 3 (.slice (some ⟨be, oe + 2, none⟩) (m - 1) (ec - 1)) p2 ao n cap po k2 pc (some ⟨be, oe + 2, none⟩) (m - 1) (ec - 1) V so t sc (by omega) (fun i hi => by have : i = 0 ∨ i = 1 ∨ i = 2 ∨ i = 3 ∨ i = 4 ∨ i = 5 := (by omega); rcases this with rfl | rfl | rfl | rfl | rfl | rfl <;> rfl) ⟨F, T, G, P, fun j => L (j + 1), fun j => H (j + 1), S, ⟨hrw.a, hrw.i, fun _ => ⟨be, oe + 2, rfl, hte, fun j hj => by
                have := hce (j + 2) (by omega)
                have e1 : oe + 2 + j = oe + (j + 2) := by omega
                rw [e1, this]
                simp only [er]
                have e2 : (j + 2) % 2 = j % 2 := by omega
                have e3 : (j + 2) / 2 = j / 2 + 1 := by omega
                rw [e2, e3]⟩, hrw.s, hrw.wf, hrw.hn, hrw.hk, by have := hrw.hm; omega⟩⟩
              have x3 := s3
              clear s3 hroom
              obtain ⟨s0, s1, s2, s3, s4, s5⟩ := hD.sbx.c6
              simp [sv6] at s0 s1 s2 s3 s4 s5
              have hsR := hD.res
              go_wp2_with (refine wpList_store_box rfl 33 (.tmp 2) (.tmp 59) rfl rfl w.heap.size [.int .i64 p2, .slice ao n cap, .slice po k2 pc, .slice (some ⟨be, oe + 2, none⟩) (m - 1) (ec - 1), .int .i64 V, .slice so t sc] (by simp [go_sem]) (by simp [go_sem]) hsR (by kernel_rfl) (by intro v hv; simp at hv; rcases hv with rfl | rfl | rfl | rfl | rfl | rfl <;> rfl) ?_; intro W9 hv9 hg9)
              have q0 := hv9.cell (j := 0) (by simp)
              have q1 := hv9.cell (j := 1) (by simp)
              have q2 := hv9.cell (j := 2) (by simp)
              have q3 := hv9.cell (j := 3) (by simp)
              have q4 := hv9.cell (j := 4) (by simp)
              have q5 := hv9.cell (j := 5) (by simp)
              simp [lf] at q0 q1 q2 q3 q4 q5
              obtain ⟨F, T, G, P, L, H, S, hrw⟩ := hD.rows
              have hlt := hD.lt
              have hge := hD.cur.ge
              have o1 := hrw.grS hg9 hsR.typed
              have o2 := hD.cur.grown hg9 (by omega) (by omega)
              have o3 := gr_far hD.gr hg9 (fun g e => by cases e; exact Nat.le_refl _) nl
              clear hv9 hg9 hsR hD hrw s0 s1 s2 s3 s4 s5 x3 z3
              go_wp2
              exact bodyPost_ret (v := .agg #[.int .i64 p2, .slice ao n cap, .slice po k2 pc, .slice (some ⟨be, oe + 2, none⟩) (m - 1) (ec - 1), .int .i64 V, .slice so t sc]) (by simp [results, Tryz.results20, go_sem, q0, q1, q2, q3, q4, q5]) rfl ⟨_, _, _, _, _, _, _, _, _, _, _, _, _, _, rfl, by omega, ⟨F, T, G, P, L, H, S, o1⟩, o2, o3⟩
          · obtain rfl : m = 0 := by omega
            clear s3 z3
            obtain ⟨s0, s1, s2, s3, s4, s5⟩ := hD.sbx.c6
            simp [sv6] at s0 s1 s2 s3 s4 s5
            have hsR := hD.res
            go_wp2_with (refine wpList_store_box rfl 33 (.tmp 2) (.tmp 59) rfl rfl w.heap.size [.int .i64 p2, .slice ao n cap, .slice po k2 pc, .slice eo 0 ec, .int .i64 V, .slice so t sc] (by simp [go_sem]) (by simp [go_sem]) hsR (by kernel_rfl) (by intro v hv; simp at hv; rcases hv with rfl | rfl | rfl | rfl | rfl | rfl <;> rfl) ?_; intro W9 hv9 hg9)
            have q0 := hv9.cell (j := 0) (by simp)
            have q1 := hv9.cell (j := 1) (by simp)
            have q2 := hv9.cell (j := 2) (by simp)
            have q3 := hv9.cell (j := 3) (by simp)
            have q4 := hv9.cell (j := 4) (by simp)
            have q5 := hv9.cell (j := 5) (by simp)
            simp [lf] at q0 q1 q2 q3 q4 q5
            obtain ⟨F, T, G, P, L, H, S, hrw⟩ := hD.rows
            have hlt := hD.lt
            have hge := hD.cur.ge
            have o1 := hrw.grS hg9 hsR.typed
            have o2 := hD.cur.grown hg9 (by omega) (by omega)
            have o3 := gr_far hD.gr hg9 (fun g e => by cases e; exact Nat.le_refl _) nl
            clear hv9 hg9 hsR hD hrw s0 s1 s2 s3 s4 s5
            go_wp2
            exact bodyPost_ret (v := .agg #[.int .i64 p2, .slice ao n cap, .slice po k2 pc, .slice eo 0 ec, .int .i64 V, .slice so t sc]) (by simp [results, Tryz.results20, go_sem, q0, q1, q2, q3, q4, q5]) rfl ⟨_, _, _, _, _, _, _, _, _, _, _, _, _, _, rfl, by omega, ⟨F, T, G, P, L, H, S, o1⟩, o2, o3⟩
end
end Go.Proofs.YthmpliljffmmcaaGreatDoor
