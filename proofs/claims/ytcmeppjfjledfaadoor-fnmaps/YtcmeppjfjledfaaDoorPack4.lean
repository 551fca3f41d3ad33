/-
  Helpers, merged: Bytes, ShowB, ShowSpec, GrS, ShowJ, ShowImpl, Draw, DrawN, DrawMap, DrawOne.
-/
import Derived.Test.YtcmeppjfjledfaaDoorPack1
import Derived.Deep.Upon
import Derived.Laws.IdiomCopy
import Derived.Test.YtcmeppjfjledfaaDoorPack3
import Derived.Deep.QuietTactic
import Derived.BigQuiet
import Derived.Deep.RegionLaw
/-
  Bytes in memory of the call's own, appended to out of texts: one law for the walk, room or none.
-/
set_option linter.unusedVariables false
set_option linter.unusedSimpArgs false
namespace Go.Proofs.YtcmeppjfjledfaaDoor
open Go.RowKit

/-- Block g has room for cap bytes, which may be written, and begins with the bytes l. -/
def BRow (w : World) (g cap : Nat) (l : List UInt8) : Prop :=
  l.length ≤ cap ∧ (∀ j, j < cap → (w.cell? ⟨g, j, none⟩).isSome = true ∧ w.frozen? ⟨g, j, none⟩ = false) ∧ ∀ j c, l[j]? = some c → w.cell? ⟨g, j, none⟩ = some (.int .u8 (c.toNat : Int))

theorem BRow.below {w w' : World} {g cap : Nat} {l : List UInt8} {B : Nat} (h : BRow w g cap l) (hb : Below B w w') (hB : w.heap.size ≤ B) : BRow w' g cap l := by
  by_cases hlt : g < w.heap.size
  · exact ⟨h.1, fun j hj => by rw [hb.cell (by simp; omega), hb.frozen (by simp; omega)]; exact h.2.1 j hj, fun j c hc => by rw [hb.cell (by simp; omega)]; exact h.2.2 j c hc⟩
  · have h0 : cap = 0 := by
      rcases Nat.eq_zero_or_pos cap with h0 | h0
      · exact h0
      · have := (h.2.1 0 h0).1
        simp [World.cell?, Array.getElem?_eq_none (Nat.le_of_not_lt hlt)] at this
    subst h0
    have hl : l = [] := List.eq_nil_of_length_eq_zero (by have := h.1; omega)
    subst hl
    exact ⟨Nat.le_refl _, fun j hj => by omega, fun j c hc => by simp at hc⟩

theorem BRow.lt {w : World} {g cap : Nat} {l : List UInt8} (h : BRow w g cap l) (hl : 0 < l.length) : g < w.heap.size := by
  by_cases hlt : g < w.heap.size
  · exact hlt
  · have := (h.2.1 0 (by have := h.1; omega)).1
    simp [World.cell?, Array.getElem?_eq_none (Nat.le_of_not_lt hlt)] at this

theorem Tryd.infoByte : (Tryd.prog.info? 5).map (fun i => (i.zero, i.size, i.bytes)) = some (some (.int .u8 0), 1, 1) := by kernel_rfl

def bcells (l : List UInt8) : List Value := l.map fun b => .int .u8 (b.toNat : Int)
theorem bcells_at (l : List UInt8) (j : Nat) : (bcells l)[j]? = l[j]?.map fun b => .int .u8 (b.toNat : Int) := by simp [bcells]

theorem setCells_below {w : World} {g o : Nat} (vs : List Value) {B : Nat} (hB : B ≤ g) : Below B w (w.setCells g o vs) := by
  induction vs generalizing w o with
  | nil => exact Below.refl _ _
  | cons v vs ih => exact ((Below.refl B w).setCell (p := ⟨g, o, none⟩) hB v).trans ih

theorem setCells_grown {w : World} {g o : Nat} (vs : List Value) : w.grownBy (w.setCells g o vs) (some g) := by
  induction vs generalizing w o with
  | nil => exact World.grownBy.refl _ _
  | cons v vs ih =>
    have h1 : w.grownBy (w.setCell ⟨g, o, none⟩ v) (some g) := ⟨rfl, rfl, rfl, by simp [World.setCell], fun k _ hne => Below.heap_setCell _ _ _ _ (fun e => hne (by rw [e]))⟩
    have h2 := ih (w := w.setCell ⟨g, o, none⟩ v) (o := o + 1)
    exact ⟨h2.os.trans h1.os, h2.tape.trans h1.tape, h2.output.trans h1.output, Nat.le_trans h1.size h2.size, fun k hk hne => (h2.block k (Nat.lt_of_lt_of_le hk h1.size) hne).trans (h1.block k hk hne)⟩

theorem run_append_txt (w : World) (ty : TypeId) (g cap : Nat) (l s : List UInt8) (h : BRow w g cap l) (hlen : l.length + s.length ≤ 1000000000000) {B : Nat} (hg : B ≤ g) (hB : B ≤ w.heap.size) :
    ∃ g' cap' w', (Builtin.append_ #[22, 9] ty #[.slice (some ⟨g, 0, none⟩) l.length cap, txt s]).run Tryd.prog w = .ok (.slice (some ⟨g', 0, none⟩) (l ++ s).length cap') w' ∧
      B ≤ g' ∧ BRow w' g' cap' (l ++ s) ∧ Below B w w' ∧ w.grownBy w' (some g) := by
  obtain ⟨i, hi, hz0, hz1, hz2⟩ := info_parts Tryd.infoByte
  have hsrc : Src Tryd.prog i.size 9 (txt s) s.length (bcells s) w := by
    rw [hz1]
    have := Src.ofString (P := Tryd.prog) w Tryd.underlying9 (⟨s.toArray⟩ : ByteArray)
    simpa [byteCells, bcells, ByteArray.size] using this
  by_cases hroom : l.length + s.length ≤ cap
  · refine ⟨g, cap, w.setCells g l.length (bcells s), ?_, hg, ?_, setCells_below _ hg, setCells_grown _⟩
    · have hr := run_append_room_src (P := Tryd.prog) w 22 9 ty 5 i Tryd.underlying22 hi g 0 l.length cap (txt s) s.length (bcells s) hsrc hroom
        (fun j hj => by simp [bcells] at hj; rw [hz1]; simpa using (h.2.1 (l.length + j) (by omega)).1) (fun j hj => by simp [bcells] at hj; rw [hz1]; simpa using (h.2.1 (l.length + j) (by omega)).2)
      rw [hz1] at hr
      simpa using hr
    · refine ⟨by simpa using hroom, fun j hj => ⟨World.isSome_setCells g _ _ _ _ (h.2.1 j hj).1, by rw [World.frozen?_setCells]; exact (h.2.1 j hj).2⟩, fun j c hc => ?_⟩
      by_cases hj : j < l.length
      · rw [World.cell?_setCells_out g _ _ _ _ (fun _ _ => Or.inl hj)]
        rw [List.getElem?_append_left hj] at hc
        exact h.2.2 j c hc
      · rw [List.getElem?_append_right (by omega)] at hc
        have hjs : j - l.length < s.length := (List.getElem?_eq_some_iff.1 hc).1
        have := World.cell?_setCells_in g (bcells s) l.length w (fun j hj => (h.2.1 (l.length + j) (by simp [bcells] at hj; omega)).1) (j - l.length) (by simpa [bcells] using hjs)
        rw [show l.length + (j - l.length) = j by omega] at this
        rw [this]
        have e := (List.getElem?_eq_some_iff.1 hc).2
        simp [bcells, e]
  · have holds : (Builtin.firstCells i.size l.length (.slice (some ⟨g, 0, none⟩) l.length cap)).run Tryd.prog w.drew = .ok (bcells l).toArray w.drew := by
      rw [hz1]
      exact run_firstCells_some w.drew 1 l.length ⟨g, 0, none⟩ l.length cap (bcells l) (by simp [bcells]) (fun j u hu => by
        rw [bcells_at] at hu
        simp at hu
        obtain ⟨c, hc, rfl⟩ := hu
        rw [Addr.add_mid]
        simpa using h.2.2 j c hc)
    have hr := run_append_grow_src (P := Tryd.prog) w 22 9 ty 5 i _ Tryd.underlying22 hi hz0 (some ⟨g, 0, none⟩) l.length cap (bcells l) holds (txt s) s.length (bcells s) hsrc (by omega) (by omega)
      (growslice_fits (by omega) (by rw [hz2]; omega))
    have hge := grownCap_ge w (l.length + s.length) cap 5
    have hl2 : (l ++ s).length = l.length + s.length := List.length_append
    rw [← hl2] at hr hge
    refine ⟨w.heap.size, _, _, hr, hB, ?_, (Below.drew (Below.refl _ _)).alloc hB _, ⟨rfl, rfl, rfl, by simp, fun k hk _ => Below.heap_alloc w.drew _ k hk⟩⟩
    have hsz : ((bcells l ++ bcells s).toArray ++ Builtin.zeroCells (Value.int .u8 0).cells (grownCap w (l ++ s).length cap 5 - (l ++ s).length)).size = grownCap w (l ++ s).length cap 5 := by
      rw [Array.size_append, size_zeroCells]
      simp [bcells, Value.cells] at hge ⊢
      omega
    refine ⟨hge, fun j hj => ⟨?_, World.frozen?_alloc_new w.drew _ _ j⟩, fun j c hc => ?_⟩
    · have e1 := World.cell?_alloc_new w.drew ((bcells l ++ bcells s).toArray ++ Builtin.zeroCells (Value.int .u8 0).cells (grownCap w (l ++ s).length cap 5 - (l ++ s).length)) 5 j
      have e2 : w.drew.heap.size = w.heap.size := rfl
      rw [e2] at e1
      rw [e1, Array.getElem?_eq_getElem (by rw [hsz]; exact hj)]
      rfl
    · have e1 := World.cell?_alloc_new w.drew ((bcells l ++ bcells s).toArray ++ Builtin.zeroCells (Value.int .u8 0).cells (grownCap w (l ++ s).length cap 5 - (l ++ s).length)) 5 j
      have e2 : w.drew.heap.size = w.heap.size := rfl
      rw [e2] at e1
      have hjl : j < (l ++ s).length := (List.getElem?_eq_some_iff.1 hc).1
      rw [e1, Array.getElem?_append_left (by simpa [bcells] using hjl), List.getElem?_toArray]
      have : bcells l ++ bcells s = bcells (l ++ s) := by simp [bcells]
      rw [this, bcells_at, hc]
      rfl

/-- At a step of a region that draws its order. -/
theorem step_append_txt {ops : Array Oper} {o : Oper} {a : Act} {w : World} {K : Act → World → Prop} {Q : Exit → Act → World → Prop} {E : Prop} (hgd : o.guard = none) (x y : Operand)
    (ho : o.op = .call { callee := .builtin .append, args := #[x, y], argTypes := #[22, 9] }) (g cap : Nat) (l s : List UInt8) (hx : a.eval x = .slice (some ⟨g, 0, none⟩) l.length cap) (hy : a.eval y = txt s)
    (h : BRow w g cap l) (hlen : l.length + s.length ≤ 1000000000000) (B : Nat) (hg : B ≤ g) (hB : B ≤ w.heap.size)
    (hK : ∀ g' cap' w', B ≤ g' → BRow w' g' cap' (l ++ s) → Below B w w' → w.grownBy w' (some g) → K (a.put o.dst (.slice (some ⟨g', 0, none⟩) (l ++ s).length cap')) w') :
    if Region.wanted o (yielded ops a.tmps) = true then Oper.wp Tryd.prog o a w K Q else E := by
  have hw : Region.wanted o (yielded ops a.tmps) = true := by simp [Region.wanted, hgd]
  rw [if_pos hw]
  obtain ⟨g', cap', w', hr, h2, h3, h4, h5⟩ := run_append_txt w o.type g cap l s h hlen hg hB
  unfold Oper.wp execOp
  simp only [ho, resolve, invoke, builtin, Sem.run_bind, Sem.run_pure, Result.andThen_ok, List.map_toArray, List.map_cons, List.map_nil, hx, hy, hr]
  exact hK g' cap' w' h2 h3 h4 h5

end Go.Proofs.YtcmeppjfjledfaaDoor

/-
  Numbers and arcs as text; bytes made of a text and back.
-/
set_option linter.unusedVariables false
set_option linter.unusedSimpArgs false
namespace Go.Proofs.YtcmeppjfjledfaaDoor
open Go.RowKit
attribute [local go_sem ↓] Go.wp_at_zero Go.wp_at_succ

def dec (n : Int) : List UInt8 := Lib.decDigits n.toNat
def arcT (f t g : Int) : List UInt8 := 32 :: (dec f ++ (32 :: (dec t ++ (32 :: dec g))))
def Small (n : Nat) (F T G : Nat → Int) : Prop := ∀ k, k < n → (0 ≤ F k ∧ F k ≤ 1000000) ∧ (0 ≤ T k ∧ T k ≤ 1000000) ∧ (0 ≤ G k ∧ G k ≤ 1000000)
theorem dec_len {n : Int} (h0 : 0 ≤ n) (h1 : n ≤ 1000000) : (dec n).length ≤ 1000001 := by
  have := decDigits_len n.toNat
  unfold dec; omega
theorem arcT_len {f t g : Int} (hf : 0 ≤ f ∧ f ≤ 1000000) (ht : 0 ≤ t ∧ t ≤ 1000000) (hg : 0 ≤ g ∧ g ≤ 1000000) : (arcT f t g).length ≤ 4000000 := by
  have a := dec_len hf.1 hf.2
  have b := dec_len ht.1 ht.2
  have c := dec_len hg.1 hg.2
  simp [arcT]; omega
theorem decDigits_pos (u : Nat) : 0 < (Lib.decDigits u).length := by
  by_cases hu : u < 10
  · rw [decDigits_one hu]; simp
  · rw [decDigits_ten (by omega)]; simp
theorem conv_bytes (s : ByteArray) (w : World) : (convert 9 22 (.string s)).run Tryd.prog w = .ok (.slice (some ⟨w.heap.size, 0, none⟩) s.size (grownCap w s.size 0 5))
      (w.drew.alloc (.cells (bytesRow s (grownCap w s.size 0 5)) 5 ((bytesRow s (grownCap w s.size 0 5)).size, (bytesRow s (grownCap w s.size 0 5)).size + 1))) :=
  run_bytes_of_string w 9 22 5 s Tryd.underlying9 Tryd.underlying22 Tryd.underlying5
theorem brow_new (l : List UInt8) (w : World) (cap : Nat) (hcap : l.length ≤ cap) :
    BRow (w.alloc (.cells (bytesRow ⟨l.toArray⟩ cap) 5 ((bytesRow ⟨l.toArray⟩ cap).size, (bytesRow ⟨l.toArray⟩ cap).size + 1))).drew w.heap.size cap l := by
  have hb : (w.alloc (.cells (bytesRow ⟨l.toArray⟩ cap) 5 ((bytesRow ⟨l.toArray⟩ cap).size, (bytesRow ⟨l.toArray⟩ cap).size + 1))).drew.heap[w.heap.size]? = some (.cells (bytesRow ⟨l.toArray⟩ cap) 5 ((bytesRow ⟨l.toArray⟩ cap).size, (bytesRow ⟨l.toArray⟩ cap).size + 1)) := heap_alloc_new w _
  have hsz : (bytesRow ⟨l.toArray⟩ cap).size = cap := by simp [bytesRow, ByteArray.size]; omega
  refine ⟨hcap, fun j hj => ⟨?_, ?_⟩, fun j c hc => ?_⟩
  · simp only [World.cell?, hb]
    rw [Array.getElem?_eq_getElem (by rw [hsz]; exact hj)]
    rfl
  · simp only [World.frozen?, hb]
    simp; omega
  · have hjl : j < l.length := (List.getElem?_eq_some_iff.1 hc).1
    simp only [World.cell?, hb]
    rw [bytesRow, Array.getElem?_append_left (by simpa using hjl)]
    simp [hc]
theorem conv_txt {w : World} {g cap : Nat} {l : List UInt8} (h : BRow w g cap l) : (convert 22 9 (.slice (some ⟨g, 0, none⟩) l.length cap)).run Tryd.prog w = .ok (txt l) w := by
  rw [run_convert_bytes_string _ 22 9 5 _ _ _ Tryd.underlying22 Tryd.underlying5 Tryd.underlying9]
  have hl := run_loadCells_list (P := Tryd.prog) w ⟨g, 0, none⟩ (bcells l) (fun j u hu => by
    rw [bcells_at] at hu
    simp at hu
    obtain ⟨c, hc, rfl⟩ := hu
    rw [Addr.add_mid]
    simpa using h.2.2 j c hc)
  have e : bcells l = (l.map fun b => (b.toNat : Int)).map (Value.int .u8) := by simp [bcells]
  rw [e] at hl
  simp only [List.length_map] at hl
  rw [run_bytesToString _ _ l.length cap _ hl]
  have key : ∀ (xs : List UInt8) (r : ByteArray), (xs.map fun b => (b.toNat : Int)).foldl (fun r n => r.push (UInt8.ofNat n.toNat)) r = ⟨(r.data.toList ++ xs).toArray⟩ := by
    intro xs
    induction xs with
    | nil => intro r; apply ByteArray.ext; simp
    | cons x xs ih => intro r; simp only [List.map_cons, List.foldl_cons]; rw [ih]; apply ByteArray.ext; simp
  rw [key]
  rfl
/-- One arc's numbers, as the document's text adds them up. -/
theorem arc_add (a b c : List UInt8) : ((((({ data := #[32] } : ByteArray) ++ { data := a.toArray }) ++ { data := #[32] }) ++ { data := b.toArray }) ++ { data := #[32] }) ++ { data := c.toArray } = (⟨(32 :: (a ++ (32 :: (b ++ (32 :: c))))).toArray⟩ : ByteArray) := by
  apply ByteArray.ext
  simp
theorem l1Int_dec (n : Int) (h0 : 0 ≤ n) (h1 : n ≤ 1000000) (w : World) :
    Calls Tryd.prog 35 #[.int .i64 n] w fun e w' => e = .returned (txt (dec n)) ∧ Below w.heap.size w w' := by
  obtain ⟨N, rfl⟩ := Int.eq_ofNat_of_zero_le h0
  refine (l1Int_any N (by omega) w).mono ?_
  rintro e w' ⟨rfl, hb⟩
  exact ⟨rfl, hb⟩

end Go.Proofs.YtcmeppjfjledfaaDoor

/-
  The document's text of a map: for a map whose numbers are not below nought and not too great.
-/
set_option linter.unusedVariables false
set_option linter.unusedSimpArgs false
namespace Go.Proofs.YtcmeppjfjledfaaDoor
open Go.RowKit
attribute [local go_sem ↓] Go.wp_at_zero Go.wp_at_succ

def showT (p : Int) (F T G : Nat → Int) : Nat → List UInt8
  | 0 => dec p
  | k + 1 => showT p F T G k ++ arcT (F k) (T k) (G k)
theorem showT_len {p : Int} {F T G : Nat → Int} (hp : 0 ≤ p ∧ p ≤ 1000000) : ∀ n, Small n F T G → (showT p F T G n).length ≤ 4000000 * (n + 1)
  | 0, _ => by have := dec_len hp.1 hp.2; simp [showT]; omega
  | n + 1, h => by
    have := showT_len hp n (fun k hk => h k (by omega))
    obtain ⟨a, b, c⟩ := h n (by omega)
    have := arcT_len a b c
    simp [showT]; omega
theorem showT_pos {p : Int} {F T G : Nat → Int} : ∀ k, 0 < (showT p F T G k).length
  | 0 => decDigits_pos _
  | k + 1 => by have := showT_pos (p := p) (F := F) (T := T) (G := G) k; simp [showT]; omega
set_option maxRecDepth 20000 in
set_option maxHeartbeats 2000000 in
theorem l1Show_any (p : Int) (ao : Option Addr) (n cap : Nat) (F T G : Nat → Int) (hn : n ≤ 100) (hp : 0 ≤ p ∧ p ≤ 1000000) (hs : Small n F T G) (w : World) (hr : Row w ao n F T G) :
    Calls Tryd.prog 17 #[.agg #[.int .i64 p, .slice ao n cap]] w fun e w' => e = .returned (txt (showT p F T G n)) ∧ Below w.heap.size w w' := by
  have hcb := conv_bytes
  have HP : Hid (0 ≤ p ∧ p ≤ 1000000) := hp
  obtain ⟨hp0, hp1⟩ := hp
  have hpl := dec_len hp0 hp1
  go_enter Tryd.func17, Tryd.ntmps17
  go_wp2_with (go_at_call 35; refine (l1Int_dec p hp0 hp1 _).mono ?_; rintro e w1 ⟨rfl, hb1⟩)
  clear hcb
  have hA := hb1.mono (B' := w.heap.size + 1) (by simp)
  have hb0 := brow_new (dec p) w1 (grownCap w1 (dec p).length 0 5) (grownCap_ge w1 _ 0 5)
  have hsz1 : w.heap.size + 1 ≤ w1.heap.size := by have := hb1.size; simp at this; omega
  go_loopw [3, 4] (fun b i wr => ∃ k : Nat, k ≤ n ∧ i = .int .i64 k ∧ ∃ g cap', b = .slice (some ⟨g, 0, none⟩) (showT p F T G k).length cap' ∧ w.heap.size + 1 ≤ g ∧ BRow wr g cap' (showT p F T G k) ∧ Below (w.heap.size + 1) (w.alloc (.cells #[.int .i64 p, .slice ao n cap] 26)) wr) (fun _ i _ => n - (intOf i).toNat)
  case atStart => exact ⟨0, Nat.zero_le _, rfl, w1.heap.size, _, rfl, hsz1, hb0, (hA.alloc hsz1 _).drew⟩
  case round =>
    clear hb0 hA hb1 hsz1
    obtain ⟨k, hk, rfl, g, cap', rfl, hg, hb, hbel⟩ := hrel
    have g0 : wr.cell? ⟨w.heap.size, 0, none⟩ = some (.int .i64 p) := by rw [hbel.cell (by simp)]; simp [go_sem]
    have g1 : wr.cell? ⟨w.heap.size, 1, none⟩ = some (.slice ao n cap) := by rw [hbel.cell (by simp)]; simp [go_sem]
    have hsz : w.heap.size < wr.heap.size := by have := hbel.size; simp at this; omega
    by_cases hlt : k < n
    rotate_left
    · have e : k = n := by omega
      subst e
      have hcv := conv_txt hb
      go_wp2
      go_ret
      exact ⟨rfl, unbox hbel (by omega)⟩
    obtain ⟨b, o, hao, c0, c1, c2⟩ := ((hr.alloc _).below hbel (by simp)) k hlt
    subst hao
    obtain ⟨⟨f0, f1⟩, ⟨t0, t1⟩, ⟨w0, w1'⟩⟩ := hs k hlt
    have hfl := dec_len f0 f1
    have htl := dec_len t0 t1
    have hwl := dec_len w0 w1'
    have hll := showT_len HP.out k (fun j hj => hs j (by omega))
    go_wp2
    have hgl : g < wr.heap.size := hb.lt (showT_pos k)
    have q1 : ¬ 9223372036854775807 < 1 + (dec (F k)).length := by omega
    have q2 : ¬ 9223372036854775807 < 1 + (dec (F k)).length + 1 := by omega
    have q3 : ¬ 9223372036854775807 < 1 + (dec (F k)).length + 1 + (dec (T k)).length := by omega
    have q4 : ¬ 9223372036854775807 < 1 + (dec (F k)).length + 1 + (dec (T k)).length + 1 := by omega
    have q5 : ¬ 9223372036854775807 < 1 + (dec (F k)).length + 1 + (dec (T k)).length + 1 + (dec (G k)).length := by omega
    have hA := (hbel.alloc (by omega) (.cells #[.int .i64 (F k), .int .i64 (T k), .int .i64 (G k)] 37)).drew
    have hbA := (hb.below ((Below.refl wr.heap.size wr).alloc (Nat.le_refl _) (.cells #[.int .i64 (F k), .int .i64 (T k), .int .i64 (G k)] 37)).drew (Nat.le_refl _))
    go_region_held3 (fun w' => w'.cell? ⟨wr.heap.size, 0, none⟩ = some (.int .i64 (F k)) ∧ w'.cell? ⟨wr.heap.size, 1, none⟩ = some (.int .i64 (T k)) ∧ w'.cell? ⟨wr.heap.size, 2, none⟩ = some (.int .i64 (G k)))
      (first | (go_split_ands; refine ⟨?_, ?_, ?_⟩ <;> exact keep_cell ‹_› (Nat.le_refl _) (by assumption)) | (go_split_ands; refine ⟨?_, ?_, ?_⟩ <;> exact hgr5.cell (by assumption) (by simp; omega)) | go_keep)
      (first | (go_at_call_of 35 (Value.int IntKind.i64 (F k)); refine (l1Int_dec (F k) f0 f1 _).mono ?_; rintro e w2 ⟨rfl, hb2⟩; replace hbA := hbA.below hb2 (Nat.le_refl _); replace hA := below_next hA (by simp) hb2) | (go_at_call_of 35 (Value.int IntKind.i64 (T k)); refine (l1Int_dec (T k) t0 t1 _).mono ?_; rintro e w2 ⟨rfl, hb2⟩; replace hbA := hbA.below hb2 (Nat.le_refl _); replace hA := below_next hA (by simp) hb2) | (go_at_call_of 35 (Value.int IntKind.i64 (G k)); refine (l1Int_dec (G k) w0 w1' _).mono ?_; rintro e w2 ⟨rfl, hb2⟩; replace hbA := hbA.below hb2 (Nat.le_refl _); replace hA := below_next hA (by simp) hb2) | (refine step_append_txt ?_ (.tmp 22) (.tmp 36) ?_ g cap' (showT p F T G k) (arcT (F k) (T k) (G k)) ?_ ?_ hbA ?_ (w.heap.size + 1) hg ?_ ?_; rfl; rfl; rfl; exact congrArg Value.string (arc_add _ _ _); (have := arcT_len ⟨f0, f1⟩ ⟨t0, t1⟩ ⟨w0, w1'⟩; omega); (have := hA.size; simp at this; omega); intro g' cap'' w5 hg' hbB hb5 hgr5))
    go_wp2
    go_roundw
    case rel => exact ⟨k + 1, by omega, by go_num, g', cap'', by simp [showT], hg', hbB, hA.trans hb5⟩
    case measure => simp [intOf]; omega
theorem small_of {p : Int} {n : Nat} {F T G : Nat → Int} (h : graphB p n F T G = true) : n ≤ 100 ∧ (0 ≤ p ∧ p ≤ 1000000) ∧ Small n F T G := by
  simp [graphB, inB] at h
  obtain ⟨⟨h1, h2⟩, h3, h4⟩ := h
  refine ⟨h3, ⟨by omega, by omega⟩, ?_⟩
  have key : ∀ m, arcsB p F T G m = true → ∀ k, k < m → arcB (F k) (T k) (G k) p = true := by
    intro m
    induction m with
    | zero => intro _ k hk; omega
    | succ m ih =>
      intro hm k hk
      simp [arcsB] at hm
      by_cases e : k = m
      · subst e; exact hm.2.1
      · exact ih hm.1 k (by omega)
  intro k hk
  have := key n h4 k hk
  simp [arcB, inB] at this
  omega
def showG (p : Int) (n : Nat) (F T G : Nat → Int) : List UInt8 := if graphB p n F T G then showT p F T G n else []
theorem specShow_any (p : Int) (ao : Option Addr) (n cap : Nat) (F T G : Nat → Int) (hn : n ≤ 1048576) (w : World) (hr : Row w ao n F T G) :
    Calls Tryd.prog 7 #[.agg #[.int .i64 p, .slice ao n cap]] w fun e w' => e = .returned (txt (showG p n F T G)) ∧ Below w.heap.size w w' := by
  rcases Bool.eq_false_or_eq_true (graphB p n F T G) with h | h
  · obtain ⟨h1, h2, h3⟩ := small_of h
    have HS : Hid (Small n F T G) := h3
    have e : showG p n F T G = showT p F T G n := by simp [showG, h]
    rw [e]
    go_enter Tryd.func7, Tryd.ntmps7
    go_wp2_with (first | (go_at_call 16; refine (specGraphOk_any p ao n cap F T G hn _ (hr.alloc _)).mono ?_; rintro e w1 ⟨rfl, hb1⟩; obtain ⟨hc, hf⟩ := bcell hb1) | (go_at_call 17; refine (l1Show_any p ao n cap F T G h1 h2 HS.out _ ((hr.alloc _).below hb1 (Nat.le_refl _))).mono ?_; rintro e w2 ⟨rfl, hb2⟩))
    go_ret
    exact ⟨rfl, unbox (below_next hb1 (Nat.le_refl _) hb2) (by simp)⟩
  · have e : showG p n F T G = [] := by simp [showG, h]
    rw [e]
    go_enter Tryd.func7, Tryd.ntmps7
    go_wp2_with (first | (go_at_call 16; refine (specGraphOk_any p ao n cap F T G hn _ (hr.alloc _)).mono ?_; rintro e w1 ⟨rfl, hb1⟩))
    go_ret
    exact ⟨rfl, unbox hb1 (by simp)⟩

end Go.Proofs.YtcmeppjfjledfaaDoor

/-
  A map's text, plainly: what is shown is read as itself, what is read is shown as itself.
-/
set_option linter.unusedVariables false
set_option linter.unusedSimpArgs false
namespace Go.Proofs.YtcmeppjfjledfaaDoor
open Go.Lib (itoa)

theorem dec_itoa {v : Int} (h : 0 ≤ v) : dec v = itoa v := by
  unfold dec Lib.itoa
  rw [if_neg (by omega)]
theorem join_snoc {L : List (List UInt8)} (h : L ≠ []) (a : List UInt8) : joinW (L ++ [a]) = joinW L ++ 32 :: a := by
  induction L with
  | nil => exact absurd rfl h
  | cons b r ih =>
    cases r with
    | nil => rfl
    | cons c t =>
      have := ih (by simp)
      rw [List.cons_append, join_cons (a := b) (r := c :: t ++ [a]) (by simp), this, join_cons (a := b) (r := c :: t) (by simp)]
      simp
/-- The arcs' numbers, one behind the other. -/
def flat (F T G : Nat → Int) : Nat → List Int
  | 0 => []
  | k + 1 => flat F T G k ++ [F k, T k, G k]
theorem flat_len (F T G : Nat → Int) : ∀ n, (flat F T G n).length = 3 * n
  | 0 => rfl
  | k + 1 => by simp [flat, flat_len F T G k]; omega
theorem show_flat {p : Int} (hp : 0 ≤ p) {F T G : Nat → Int} : ∀ n, Small n F T G → showT p F T G n = joinW ((p :: flat F T G n).map itoa)
  | 0, _ => by simp [showT, flat, joinW, dec_itoa hp]
  | k + 1, h => by
    obtain ⟨h1, h2, h3⟩ := h k (by omega)
    have e : (p :: flat F T G (k + 1)).map itoa = (((p :: flat F T G k).map itoa ++ [itoa (F k)]) ++ [itoa (T k)]) ++ [itoa (G k)] := by simp [flat]
    rw [e, join_snoc (by simp), join_snoc (by simp), join_snoc (by simp), ← show_flat hp k (fun j hj => h j (by omega))]
    simp [showT, arcT, dec_itoa h1.1, dec_itoa h2.1, dec_itoa h3.1]
theorem flat_get (F T G : Nat → Int) : ∀ (n k : Nat), k < n → (flat F T G n).getD (3 * k) 0 = F k ∧ (flat F T G n).getD (3 * k + 1) 0 = T k ∧ (flat F T G n).getD (3 * k + 2) 0 = G k
  | 0, k, h => by omega
  | n + 1, k, h => by
    have hl := flat_len F T G n
    simp only [flat, List.getD_eq_getElem?_getD]
    by_cases hk : k < n
    · have ih := flat_get F T G n k hk
      simp only [List.getD_eq_getElem?_getD] at ih
      rw [List.getElem?_append_left (by omega), List.getElem?_append_left (by omega), List.getElem?_append_left (by omega)]
      exact ih
    · have hkn : k = n := by omega
      subst hkn
      rw [List.getElem?_append_right (by omega), List.getElem?_append_right (by omega), List.getElem?_append_right (by omega), hl]
      simp
theorem arcsB_same {p : Int} {F T G F' T' G' : Nat → Int} : ∀ n, (∀ k, k < n → F k = F' k ∧ T k = T' k ∧ G k = G' k) → arcsB p F T G n = arcsB p F' T' G' n
  | 0, _ => rfl
  | k + 1, h => by
    obtain ⟨a, b, c⟩ := h k (by omega)
    unfold arcsB
    rw [arcsB_same k (fun j hj => h j (by omega)), a, b, c]
    by_cases hk : k = 0
    · subst hk; rfl
    · obtain ⟨a', b', _⟩ := h (k - 1) (by omega)
      rw [a', b']
/-- What is shown is read as itself. -/
theorem read_show {p : Int} {n : Nat} {F T G : Nat → Int} (h : graphB p n F T G = true) :
    ∃ ns, gfin (sRead (showG p n F T G)) = some ns ∧ gd ns 0 = p ∧ nG ns = n ∧ ∀ k, k < n → at3 ns 1 k = F k ∧ at3 ns 2 k = T k ∧ at3 ns 3 k = G k := by
  obtain ⟨h1, h2, h3⟩ := small_of h
  have hl := flat_len F T G n
  have hall : ∀ v ∈ p :: flat F T G n, -999999999 ≤ v ∧ v ≤ 999999999 := by
    have hf : ∀ m, m ≤ n → ∀ v ∈ flat F T G m, -999999999 ≤ v ∧ v ≤ 999999999 := by
      intro m
      induction m with
      | zero => intro _ v hv; cases hv
      | succ m ih =>
        intro hm v hv
        obtain ⟨q1, q2, q3⟩ := h3 m (by omega)
        rcases List.mem_append.1 hv with hv | hv
        · exact ih (by omega) v hv
        · simp at hv
          rcases hv with rfl | rfl | rfl <;> omega
    intro v hv
    rcases List.mem_cons.1 hv with rfl | hv
    · omega
    · exact hf n (Nat.le_refl _) v hv
  have hat : ∀ k, k < n → at3 (p :: flat F T G n) 1 k = F k ∧ at3 (p :: flat F T G n) 2 k = T k ∧ at3 (p :: flat F T G n) 3 k = G k := fun k hk => by
    obtain ⟨a, b, c⟩ := flat_get F T G n k hk
    exact ⟨a, b, c⟩
  have hn : nG (p :: flat F T G n) = n := by unfold nG; simp [hl]
  refine ⟨p :: flat F T G n, ?_, rfl, hn, hat⟩
  have hs : sRead (showG p n F T G) = some (p :: flat F T G n) := by
    unfold showG sRead
    rw [if_pos h, show_flat h2.1 n h3, snums_show (by simp) hall]
    simp only
    rw [if_neg (by simp [hl])]
  rw [hs]
  unfold gfin
  simp only
  rw [if_pos]
  unfold graphB at h ⊢
  rw [hn]
  show (inB p 1 24 && (decide (n ≤ 100) && arcsB p _ _ _ n)) = true
  rw [arcsB_same n hat]
  exact h

theorem list_flat {F T G : Nat → Int} : ∀ (n : Nat) (l : List Int), l.length = 3 * n → (∀ k, k < n → l.getD (3 * k) 0 = F k ∧ l.getD (3 * k + 1) 0 = T k ∧ l.getD (3 * k + 2) 0 = G k) → flat F T G n = l := by
  intro n l hl h
  have hf := flat_len F T G n
  apply List.ext_getElem (by omega)
  intro i h1 h2
  have e : ∀ (m : List Int) (hm : i < m.length), m[i] = m.getD i 0 := fun m hm => by simp [hm]
  rw [e _ h1, e _ h2]
  have hk : i / 3 < n := by omega
  obtain ⟨a, b, c⟩ := flat_get F T G n (i / 3) hk
  obtain ⟨a', b', c'⟩ := h (i / 3) hk
  have hi : i = 3 * (i / 3) ∨ i = 3 * (i / 3) + 1 ∨ i = 3 * (i / 3) + 2 := by omega
  rcases hi with hi | hi | hi
  · rw [hi, a, a']
  · rw [hi, b, b']
  · rw [hi, c, c']
/-- What is read is shown as itself. -/
theorem show_read {l : List UInt8} {ns : List Int} (h : gfin (sRead l) = some ns) : showG (gd ns 0) (nG ns) (at3 ns 1) (at3 ns 2) (at3 ns 3) = l := by
  unfold gfin at h
  split at h
  · next ns' hs =>
    split at h
    · next hg =>
      injection h with h
      subst h
      unfold sRead at hs
      split at hs
      · next ns2 hn =>
        split at hs
        · cases hs
        · next h3 =>
          injection hs with hs
          subst hs
          obtain ⟨_, hp, hsm⟩ := small_of hg
          unfold showG
          rw [if_pos hg, show_flat hp.1 _ hsm]
          have h1 : ns2.length % 3 = 1 := by omega
          cases ns2 with
          | nil => simp at h1
          | cons v r =>
            have hlen : r.length = 3 * nG (v :: r) := by unfold nG; simp at h1 ⊢; omega
            have e := list_flat (F := at3 (v :: r) 1) (T := at3 (v :: r) 2) (G := at3 (v :: r) 3) (nG (v :: r)) r hlen (fun k hk => ⟨rfl, rfl, rfl⟩)
            rw [e]
            exact show_snums hn
      · cases hs
    · cases h
  · cases h

end Go.Proofs.YtcmeppjfjledfaaDoor

/-
  Words in a list of the call's own, and their join.
-/
set_option linter.unusedVariables false
set_option linter.unusedSimpArgs false
namespace Go.Proofs.YtcmeppjfjledfaaDoor
open Go.RowKit
attribute [local go_sem ↓] Go.wp_at_zero Go.wp_at_succ

theorem boxed1 {w W : World} {o : Obj} (h : Below (w.alloc o).heap.size (w.alloc o) W) : Below (w.heap.size + 1) (w.alloc o) W := h.mono (by simp)
def scells (W : List (List UInt8)) : List Value := W.map txt
theorem join_any (g c : Nat) (W : List (List UInt8)) (w : World) (hc : ∀ j u, (scells W)[j]? = some u → w.cell? ⟨g, j, none⟩ = some u) (hg : g < w.heap.size) (hN : W.length ≤ 1000) (hcap : W.length ≤ c) (hlen : (Lib.join W [32]).length ≤ 1000000000000) :
    Calls Tryd.prog 15 #[.slice (some ⟨g, 0, none⟩) W.length c, .string ⟨#[32]⟩] w fun e w' => e = .returned (txt (Lib.join W [32])) ∧ Below w.heap.size w w' := by
  have e1 : (W.map fun l => (⟨l.toArray⟩ : ByteArray)).length = W.length := List.length_map _
  have e2 : (W.map fun l => (⟨l.toArray⟩ : ByteArray)).map (·.data.toList) = W := by simp [Function.comp_def]
  have h := Tryd.strings_Join g 0 c (W.map fun l => (⟨l.toArray⟩ : ByteArray)) ⟨#[32]⟩ w (fun j x hx => by
    rw [Nat.zero_add]
    refine hc j _ ?_
    simp [scells] at hx ⊢
    obtain ⟨l, hl, rfl⟩ := hx
    exact ⟨l, hl, rfl⟩) hg (by rw [e1]; omega) (by rw [e1]; exact hcap) (by rw [e2]; show (Lib.join W [32]).length ≤ _; omega)
  rw [e1, e2] at h
  exact h
theorem Tryd.infoStr : (Tryd.prog.info? 9).map (fun i => (i.zero, i.size, i.bytes)) = some (some (.string ByteArray.empty), 1, 16) := by kernel_rfl
theorem scells_one (W : List (List UInt8)) : ∀ u ∈ scells W, u.oneCell' = true := fun u hu => by
  simp [scells] at hu
  obtain ⟨_, _, rfl⟩ := hu
  rfl
theorem news3 (w : World) (a b c : List UInt8) : ∀ j u, (scells [a, b, c])[j]? = some u → (w.alloc (.cells #[txt a, txt b, txt c] 9)).cell? ((⟨w.heap.size, 0, none⟩ : Addr).add j) = some u := fun j u hu => by
  match j, hu with
  | 0, hu => simp [scells] at hu; subst hu; simp [Addr.add, go_sem]
  | 1, hu => simp [scells] at hu; subst hu; simp [Addr.add, go_sem]
  | 2, hu => simp [scells] at hu; subst hu; simp [Addr.add, go_sem]
/-- The box of an argument of two cells, in a later world. -/
theorem boxd {w W : World} {a0 a1 : Value} {t : TypeId} (h : Below (w.heap.size + 1) (w.alloc (.cells #[a0, a1] t)) W) :
    W.cell? ⟨w.heap.size, 0, none⟩ = some a0 ∧ W.cell? ⟨w.heap.size, 1, none⟩ = some a1 ∧ w.heap.size < W.heap.size := by
  refine ⟨by rw [h.cell (by simp)]; simp [go_sem], by rw [h.cell (by simp)]; simp [go_sem], by have := h.size; simp at this; omega⟩
theorem owns_below {w w' : World} {base e size n : Nat} {v : Value} {xs : List Value} (h : w.ownsRow base e size v n xs) (hb : Below w.heap.size w w') : w'.ownsRow base e size v n xs :=
  h.kept (row := none) ⟨hb.os, hb.tape, hb.output, hb.size, fun k hk _ => hb.block k hk⟩ (by cases v.ownBlock <;> simp)
theorem owns_lt {w : World} {base e n cap g : Nat} {xs : List Value} (h : w.ownsRow base e 1 (.slice (some ⟨g, 0, none⟩) n cap) n xs) : g < w.heap.size := by
  obtain ⟨_, h0 | ⟨g', cap', cur, hv, _, hh, _⟩⟩ := h
  · simp at h0
  · simp at hv
    obtain ⟨rfl, rfl⟩ := hv
    exact (Array.getElem?_eq_some_iff.1 hh).1
theorem owns_cells {w : World} {base e n cap g : Nat} {xs : List Value} (h : w.ownsRow base e 1 (.slice (some ⟨g, 0, none⟩) n cap) n xs) : ∀ j u, xs[j]? = some u → w.cell? ⟨g, j, none⟩ = some u := fun j u hu => by
  have hl := h.1
  have hj : j < xs.length := (List.getElem?_eq_some_iff.1 hu).1
  rw [World.ownsRow.cellAt h j (by omega)]
  exact hu

end Go.Proofs.YtcmeppjfjledfaaDoor

/-
  The program's text of a map is the document's.
-/
set_option linter.unusedVariables false
set_option linter.unusedSimpArgs false
namespace Go.Proofs.YtcmeppjfjledfaaDoor
open Go.RowKit
attribute [local go_sem ↓] Go.wp_at_zero Go.wp_at_succ

def restT (F T G : Nat → Int) : Nat → List (List UInt8)
  | 0 => []
  | k + 1 => restT F T G k ++ [dec (F k), dec (T k), dec (G k)]
def wordsT (p : Int) (F T G : Nat → Int) (k : Nat) : List (List UInt8) := dec p :: restT F T G k
theorem wordsT_succ (p : Int) (F T G : Nat → Int) (k : Nat) : wordsT p F T G (k + 1) = wordsT p F T G k ++ [dec (F k), dec (T k), dec (G k)] := by simp [wordsT, restT]
theorem wordsT_len (p : Int) (F T G : Nat → Int) : ∀ k, (wordsT p F T G k).length = 1 + 3 * k
  | 0 => rfl
  | k + 1 => by rw [wordsT_succ, List.length_append, wordsT_len p F T G k]; simp; omega
theorem join_words (p : Int) (F T G : Nat → Int) : ∀ k, Lib.join (wordsT p F T G k) [32] = showT p F T G k
  | 0 => by simp [wordsT, restT, showT, Lib.join_one]
  | k + 1 => by
    have ih := join_words p F T G k
    simp only [wordsT, Lib.join_cons] at ih ⊢
    simp only [restT, showT, ← ih, Lib.joinTail, List.map_append, List.flatten_append]
    simp [arcT]
/-- At a step of a region that draws its order: three words more, where there is room. -/
theorem step_append_words {ops : Array Oper} {o : Oper} {a : Act} {w : World} {K : Act → World → Prop} {Q : Exit → Act → World → Prop} {E : Prop} (hgd : o.guard = none) (x y : Operand)
    (ho : o.op = .call { callee := .builtin .append, args := #[x, y], argTypes := #[34, 34] }) (base g cap : Nat) (W V : List (List UInt8)) (ad : Addr) (c : Nat)
    (hx : a.eval x = .slice (some ⟨g, 0, none⟩) W.length cap) (hy : a.eval y = .slice (some ad) V.length c) (hown : w.ownsRow base 9 1 (.slice (some ⟨g, 0, none⟩) W.length cap) W.length (scells W))
    (hc : ∀ j u, (scells V)[j]? = some u → w.cell? (ad.add j) = some u) (hroom : W.length + V.length ≤ cap)
    (hK : ∀ w', w'.ownsRow base 9 1 (.slice (some ⟨g, 0, none⟩) (W ++ V).length cap) (W ++ V).length (scells (W ++ V)) → w.grownBy w' (some g) → K (a.put o.dst (.slice (some ⟨g, 0, none⟩) (W ++ V).length cap)) w') :
    if Region.wanted o (yielded ops a.tmps) = true then Oper.wp Tryd.prog o a w K Q else E := by
  have hw : Region.wanted o (yielded ops a.tmps) = true := by simp [Region.wanted, hgd]
  rw [if_pos hw]
  obtain ⟨i, hi, hz0, hz1, hz2⟩ := info_parts Tryd.infoStr
  obtain ⟨w', hr, h1, h2⟩ := run_append_fits (P := Tryd.prog) w base 34 o.type 9 i 1 Tryd.underlying34 hi hz1 g W.length cap (scells W) hown ad V.length c (scells V) (by simp [scells]) hc (scells_one V) hroom
  have e1 : W.length + V.length = (W ++ V).length := by simp
  have e2 : scells W ++ scells V = scells (W ++ V) := by simp [scells]
  rw [e1] at hr h1
  rw [e2] at h1
  unfold Oper.wp execOp
  simp only [ho, resolve, invoke, builtin, Sem.run_bind, Sem.run_pure, Result.andThen_ok, List.map_toArray, List.map_cons, List.map_nil, hx, hy, hr]
  exact hK w' h1 h2
set_option maxRecDepth 20000 in
set_option maxHeartbeats 2000000 in
theorem implShow_yes (p : Int) (ao : Option Addr) (n cap : Nat) (F T G : Nat → Int) (hn : n ≤ 100) (hp : 0 ≤ p ∧ p ≤ 1000000) (hs : Small n F T G) (h : graphB p n F T G = true) (w : World) (ht : Tab w) (hr : Row w ao n F T G) :
    Calls Tryd.prog 6 #[.agg #[.int .i64 p, .slice ao n cap]] w fun e w' => e = .returned (txt (showT p F T G n)) ∧ Below w.heap.size w w' := by
  have HP : Hid (0 ≤ p ∧ p ≤ 1000000) := hp
  have HS : Hid (Small n F T G) := hs
  obtain ⟨hp0, hp1⟩ := hp
  clear hs
  obtain ⟨i0, hi, hz0, hz1, hz2⟩ := info_parts Tryd.infoStr
  go_enter Tryd.func6, Tryd.ntmps6
  go_wp2_with (first
    | (go_at_call 8; refine (implGraphOk_any p ao n cap F T G (by omega) _ (hr.alloc _)).mono ?_; rintro e w1 ⟨rfl, hb1⟩; have hA := boxed1 hb1; have hsz1 : w.heap.size + 1 ≤ w1.heap.size := by (have := hb1.size; simp at this; omega))
    | (at_make; refine wpList_make_own _ rfl _ _ 34 rfl (w.heap.size + 1) 9 i0 _ 1 Tryd.underlying34 hi hz0 hz1 .i64 .i64 301 301 rfl rfl (by omega) (by rw [hz2]; omega) (by unfold maxLen; omega) (by have := hA.size; simp at this; omega) ?_; intro w2 hown2 hgr2; replace hA := hA.grown hgr2 (by have := hA.size; simp at this; omega) (fun k hk => by cases hk); obtain ⟨x0, x1, xs⟩ := boxd hA)
    | (go_at_call 14; refine (showNumber_any p hp0 (by omega) _ (ht.below (unbox hA (by omega)) (Nat.le_refl _))).mono ?_; rintro e w3 ⟨rfl, hb3⟩; replace hA := below_next hA (by simp) hb3; have hown3 := owns_below hown2 hb3; clear x0 x1 xs; obtain ⟨x0, x1, xs⟩ := boxd hA)
    | (at_builtin; refine wpList_append_fits _ rfl _ _ 34 rfl (w.heap.size + 1) 9 i0 1 Tryd.underlying34 hi hz1 w1.heap.size 0 301 [] rfl (hown3.alloc _) ⟨w3.heap.size, 0, none⟩ 1 1 [txt (dec p)] rfl rfl (cell_one_new _ _ _) (scells_one [dec p]) (by omega) ?_; intro w4 hown4 hgr4; replace hA := (hA.alloc (by omega) (.cells #[txt (dec p)] 9)).grown hgr4 (by simp; omega) (fun k hk => by simp at hk; omega); clear x0 x1; obtain ⟨x0, x1, xs4⟩ := boxd hA))
  clear x0 x1 hb1 hgr2 hgr4 hown2 hown3
  go_loopw [3, 19] (fun v x wr => ∃ k : Nat, k ≤ n ∧ x = .int .i64 k ∧ v = .slice (some ⟨w1.heap.size, 0, none⟩) (wordsT p F T G k).length 301 ∧ wr.ownsRow (w.heap.size + 1) 9 1 (.slice (some ⟨w1.heap.size, 0, none⟩) (wordsT p F T G k).length 301) (wordsT p F T G k).length (scells (wordsT p F T G k)) ∧ Below (w.heap.size + 1) (w.alloc (.cells #[.int .i64 p, .slice ao n cap] 26)) wr) (fun _ x _ => n - (intOf x).toNat)
  case atStart => exact ⟨0, Nat.zero_le _, rfl, rfl, hown4, hA⟩
  case round =>
    clear hown4 hA
    obtain ⟨k, hk, rfl, rfl, hown, hbel⟩ := hrel
    have hgl := owns_lt hown
    have hwl : (wordsT p F T G k).length ≤ 1 + 3 * k := Nat.le_of_eq (wordsT_len p F T G k)
    obtain ⟨x0, x1, xs'⟩ := boxd hbel
    by_cases hlt : k < n
    rotate_left
    · have e : k = n := by omega
      subst e
      have hlen : (Lib.join (wordsT p F T G k) [32]).length ≤ 1000000000000 := by
        rw [join_words]
        have := showT_len HP.out k HS.out
        omega
      go_wp2_with (go_at_call 15; refine (join_any w1.heap.size 301 (wordsT p F T G k) _ (owns_cells hown) hgl (by omega) (by omega) hlen).mono ?_; rintro e w5 ⟨rfl, hb5⟩)
      go_ret
      exact ⟨congrArg (fun x => Ending.returned (txt x)) (join_words p F T G k), unbox (below_next hbel (by simp) hb5) (by omega)⟩
    obtain ⟨b, o, hao, c0, c1, c2⟩ := ((hr.alloc _).below hbel (by simp)) k hlt
    subst hao
    obtain ⟨⟨f0, f1⟩, ⟨t0, t1⟩, ⟨v0, v1⟩⟩ := HS.out k hlt
    go_wp2
    have hA := (hbel.alloc (by omega) (.cells #[.int .i64 (F k), .int .i64 (T k), .int .i64 (G k)] 37)).drew
    replace hown := (hown.alloc (.cells #[.int .i64 (F k), .int .i64 (T k), .int .i64 (G k)] 37)).drew
    go_region_held3 (fun w' => w'.cell? ⟨wr.heap.size, 0, none⟩ = some (.int .i64 (F k)) ∧ w'.cell? ⟨wr.heap.size, 1, none⟩ = some (.int .i64 (T k)) ∧ w'.cell? ⟨wr.heap.size, 2, none⟩ = some (.int .i64 (G k)))
      (first | (go_split_ands; refine ⟨?_, ?_, ?_⟩ <;> exact keep_cell ‹_› (Nat.le_refl _) (by assumption)) | (go_split_ands; refine ⟨?_, ?_, ?_⟩ <;> exact hgr6.cell (by assumption) (by simp; omega)) | go_keep)
      (first | (go_at_call_of 14 (Value.int IntKind.i64 (F k)); refine (showNumber_any (F k) f0 (by omega) _ (ht.below (unbox hA (by omega)) (Nat.le_refl _))).mono ?_; rintro e w5 ⟨rfl, hb5⟩; replace hA := below_next hA (by simp) hb5; replace hown := owns_below hown hb5) | (go_at_call_of 14 (Value.int IntKind.i64 (T k)); refine (showNumber_any (T k) t0 (by omega) _ (ht.below (unbox hA (by omega)) (Nat.le_refl _))).mono ?_; rintro e w5 ⟨rfl, hb5⟩; replace hA := below_next hA (by simp) hb5; replace hown := owns_below hown hb5) | (go_at_call_of 14 (Value.int IntKind.i64 (G k)); refine (showNumber_any (G k) v0 (by omega) _ (ht.below (unbox hA (by omega)) (Nat.le_refl _))).mono ?_; rintro e w5 ⟨rfl, hb5⟩; replace hA := below_next hA (by simp) hb5; replace hown := owns_below hown hb5) | (refine step_append_words ?_ (.tmp 23) (.tmp 33) ?_ (w.heap.size + 1) w1.heap.size 301 (wordsT p F T G k) [dec (F k), dec (T k), dec (G k)] ⟨w5.heap.size, 0, none⟩ 3 ?_ ?_ (hown.alloc _) ?_ ?_ ?_; rfl; rfl; rfl; rfl; exact news3 _ _ _ _; (simp; omega); intro w6 hown6 hgr6))
    go_wp2
    go_roundw
    case rel => exact ⟨k + 1, by omega, by go_num, by rw [wordsT_succ]; simp, by rw [wordsT_succ]; exact hown6, (hA.alloc (by have := hA.size; simp at this; omega) _).grown hgr6 (by have := hA.size; simp at this ⊢; omega) (fun g hg => by simp at hg; omega)⟩
    case measure => simp [intOf]; omega
theorem implShow_any (p : Int) (ao : Option Addr) (n cap : Nat) (F T G : Nat → Int) (hn : n ≤ 1048576) (w : World) (ht : Tab w) (hr : Row w ao n F T G) :
    Calls Tryd.prog 6 #[.agg #[.int .i64 p, .slice ao n cap]] w fun e w' => e = .returned (txt (showG p n F T G)) ∧ Below w.heap.size w w' := by
  rcases Bool.eq_false_or_eq_true (graphB p n F T G) with h | h
  · obtain ⟨h1, h2, h3⟩ := small_of h
    have e : showG p n F T G = showT p F T G n := by simp [showG, h]
    rw [e]
    exact implShow_yes p ao n cap F T G h1 h2 h3 h w ht hr
  · have e : showG p n F T G = [] := by simp [showG, h]
    rw [e]
    go_enter Tryd.func6, Tryd.ntmps6
    go_wp2_with (first | (go_at_call 8; refine (implGraphOk_any p ao n cap F T G hn _ (hr.alloc _)).mono ?_; rintro e w1 ⟨rfl, hb1⟩))
    go_ret
    exact ⟨rfl, unbox hb1 (by simp)⟩

end Go.Proofs.YtcmeppjfjledfaaDoor

/-
  The document's draws: a cursor over bytes, and the numbers that it tells. What is drawn is not looked at; that it is in its range, and what memory it turns, is.
-/
set_option linter.unusedVariables false
set_option linter.unusedSimpArgs false
namespace Go.Proofs.YtcmeppjfjledfaaDoor
open Go.RowKit
attribute [local go_sem ↓] Go.wp_at_zero Go.wp_at_succ

/-- n bytes lie behind a slice's address, in blocks below base. -/
def ByRow (w : World) (base : Nat) (ao : Option Addr) (n : Nat) : Prop := ∀ k, k < n → ∃ b o v, ao = some ⟨b, o, none⟩ ∧ b < base ∧ w.cell? ⟨b, o + k, none⟩ = some (.int .u8 v) ∧ 0 ≤ v ∧ v ≤ 255
/-- The cells of a cursor. -/
def curV (s : Value) (i h : Int) (j : Nat) : Value := if j = 0 then s else if j = 1 then .int .i64 i else .int .i64 h
/-- Block c is a cursor over n bytes. -/
structure CurAt (w : World) (base c : Nat) (ao : Option Addr) (n cap : Nat) : Prop where
  ge : base ≤ c
  len : n ≤ 4096
  by_ : ByRow w base ao n
  cur : ∃ i h : Int, 0 ≤ i ∧ i ≤ (n : Int) ∧ VHas w c 72 3 (curV (.slice ao n cap) i h)
theorem ByRow.grown {w w' : World} {base : Nat} {ao : Option Addr} {n x : Nat} (h : ByRow w base ao n) (hg : w.grownBy w' (some x)) (hx : base ≤ x) : ByRow w' base ao n := fun k hk => by
  obtain ⟨b, o, v, e, hb, hc, hv⟩ := h k hk
  exact ⟨b, o, v, e, hb, hg.cell hc (by simp; omega), hv⟩
theorem ByRow.below {w w' : World} {base : Nat} {ao : Option Addr} {n B : Nat} (h : ByRow w base ao n) (hb : Below B w w') (hB : base ≤ B) : ByRow w' base ao n := fun k hk => by
  obtain ⟨b, o, v, e, hlt, hc, hv⟩ := h k hk
  exact ⟨b, o, v, e, hlt, by rw [hb.cell (by simp; omega)]; exact hc, hv⟩
theorem CurAt.lt {w : World} {base c : Nat} {ao : Option Addr} {n cap : Nat} (h : CurAt w base c ao n cap) : c < w.heap.size := by
  obtain ⟨_, _, _, _, hv⟩ := h.cur
  exact hv.lt
theorem CurAt.grown {w w' : World} {base c x : Nat} {ao : Option Addr} {n cap : Nat} (h : CurAt w base c ao n cap) (hg : w.grownBy w' (some x)) (hx : base ≤ x) (hne : c ≠ x) : CurAt w' base c ao n cap := by
  obtain ⟨i, hh, h0, h1, hv⟩ := h.cur
  exact ⟨h.ge, h.len, h.by_.grown hg hx, i, hh, h0, h1, hv.grown hg (by simp; exact hne)⟩
theorem CurAt.next {w w' : World} {base c : Nat} {ao : Option Addr} {n cap : Nat} (h : CurAt w base c ao n cap) (hb : Below w.heap.size w w') : CurAt w' base c ao n cap := by
  obtain ⟨i, hh, h0, h1, hv⟩ := h.cur
  have := h.ge
  have := hv.lt
  exact ⟨h.ge, h.len, h.by_.below hb (by omega), i, hh, h0, h1, hv.next hb⟩

theorem and255 (y : Int) : 0 ≤ bits .and .i64 y 255 ∧ bits .and .i64 y 255 ≤ 255 := by
  have h : (BitVec.ofInt 64 y &&& BitVec.ofInt 64 255).toNat ≤ 255 := by
    rw [BitVec.toNat_and]
    exact Nat.le_trans Nat.and_le_right (by decide)
  have e : bits .and .i64 y 255 = IntKind.i64.wrap ((BitVec.ofInt 64 y &&& BitVec.ofInt 64 255).toNat : Int) := rfl
  rw [e, IntKind.wrap_i64]
  omega
theorem cur_h {w : World} {c : Nat} {s : Value} {i h : Int} (hv : VHas w c 72 3 (curV s i h)) (h' : Int) : VHas (w.setCell ⟨c, 2, none⟩ (.int .i64 h')) c 72 3 (curV s i h') :=
  (hv.set 2 _).congr (fun j hj => by
    have : j = 0 ∨ j = 1 ∨ j = 2 := by omega
    rcases this with rfl | rfl | rfl <;> rfl)
theorem cur_i {w : World} {c : Nat} {s : Value} {i h : Int} (hv : VHas w c 72 3 (curV s i h)) (i' : Int) : VHas (w.setCell ⟨c, 1, none⟩ (.int .i64 i')) c 72 3 (curV s i' h) :=
  (hv.set 1 _).congr (fun j hj => by
    have : j = 0 ∨ j = 1 ∨ j = 2 := by omega
    rcases this with rfl | rfl | rfl <;> rfl)
theorem gr_drewN (w : World) (n : Nat) (row : Option Nat) : w.grownBy (w.drewN n) row := ⟨rfl, rfl, rfl, Nat.le_refl _, fun _ _ _ => rfl⟩

set_option maxHeartbeats 2000000 in
theorem l1Byte_any (base c : Nat) (ao : Option Addr) (n cap : Nat) (w : World) (hC : CurAt w base c ao n cap) :
    Calls Tryd.prog 51 #[.pointer (some ⟨c, 0, none⟩)] w fun e w' => ∃ x : Int, e = .returned (.int .i64 x) ∧ 0 ≤ x ∧ x ≤ 255 ∧ CurAt w' base c ao n cap ∧ w.grownBy w' (some c) := by
  obtain ⟨hge, hlen, hby, i, h, hi0, hi1, hv⟩ := hC
  have c0 : w.cell? ⟨c, 0, none⟩ = some (.slice ao n cap) := hv.cell (by omega)
  have c1 : w.cell? ⟨c, 1, none⟩ = some (.int .i64 i) := hv.cell (j := 1) (by omega)
  have c2 : w.cell? ⟨c, 2, none⟩ = some (.int .i64 h) := hv.cell (j := 2) (by omega)
  have z1 := hv.frozen 1
  have z2 := hv.frozen 2
  obtain ⟨k, rfl⟩ : ∃ k : Nat, i = (k : Int) := ⟨i.toNat, by omega⟩
  have hg1 : ∀ v, w.grownBy (w.setCell ⟨c, 2, none⟩ v) (some c) := fun v => gr_setCell w c 2 v
  by_cases hk : k < n
  rotate_left
  · have hk' : ¬ (k : Int) < (n : Int) := by omega
    go_enter Tryd.func51, Tryd.ntmps51
    go_wp2
    go_quiet (fail)
    go_wp2
    go_quiet (fail)
    go_wp2
    go_ret
    refine ⟨_, rfl, (and255 _).1, (and255 _).2, ⟨hge, hlen, ?_, (k : Int), wrap64 (wrap64 (h * 6364136223846793005) + 1442695040888963407), hi0, hi1, ?_⟩, ?_⟩
    · exact ((hby.grown (hg1 _) hge).grown (gr_drewN _ _ _) hge).grown (gr_drewN _ _ _) hge
    · exact ((cur_h hv _).of_block rfl).of_block rfl
    · exact ((hg1 _).trans (gr_drewN _ _ _)).trans (gr_drewN _ _ _)
  have hk' : (k : Int) < (n : Int) := by omega
  obtain ⟨b, o, v, hao, hbb, hcb, hv0, hv1⟩ := hby k hk
  subst hao
  have hne : b ≠ c := by omega
  have hk0 : (0 : Int) ≤ (k : Int) := by omega
  go_enter Tryd.func51, Tryd.ntmps51
  go_wp2
  go_quiet (fail)
  go_wp2
  go_quiet (fail)
  go_wp2
  go_quiet (fail)
  go_wp2
  go_ret
  refine ⟨_, rfl, (and255 _).1, (and255 _).2, ⟨hge, hlen, ?_, ((k + 1 : Nat) : Int), wrap64 (wrap64 (h * 6364136223846793005) + 1442695040888963407), by omega, by omega, ?_⟩, ?_⟩
  · exact ((hby.grown (hg1 _) hge).grown (gr_drewN _ _ _) hge).grown (gr_setCell _ c 1 _) hge
  · exact cur_i ((cur_h hv _).of_block rfl) _
  · exact ((hg1 _).trans (gr_drewN _ _ _)).trans (gr_setCell _ c 1 _)

/-- A number below m is drawn. -/
theorem l1Below_any (base c : Nat) (ao : Option Addr) (n cap : Nat) (m : Int) (hm0 : 1 ≤ m) (hm : m ≤ 256) (w : World) (hC : CurAt w base c ao n cap) :
    Calls Tryd.prog 41 #[.pointer (some ⟨c, 0, none⟩), .int .i64 m] w fun e w' => ∃ x : Nat, e = .returned (.int .i64 (x : Int)) ∧ (x : Int) < m ∧ CurAt w' base c ao n cap ∧ w.grownBy w' (some c) := by
  have hm1 : ¬ m ≤ 0 := by omega
  have hm2 : m ≠ 0 := by omega
  go_enter Tryd.func41, Tryd.ntmps41
  go_wp2_with (go_at_call 51; refine (l1Byte_any base c ao n cap _ hC).mono ?_; rintro e w1 ⟨x, rfl, hx0, hx1, hC1, hg1⟩)
  go_ret
  refine ⟨(x % m).toNat, ?_, ?_, hC1, hg1⟩
  · have := Int.emod_nonneg x hm2
    exact (congrArg (fun z => Ending.returned (.int .i64 z)) (by omega))
  · have h1 := Int.emod_nonneg x hm2
    have h2 := Int.emod_lt_of_pos x (show 0 < m by omega)
    omega

theorem l1Once_any (base c : Nat) (ao : Option Addr) (n cap : Nat) (m : Int) (hm0 : 1 ≤ m) (hm : m ≤ 256) (w : World) (hC : CurAt w base c ao n cap) :
    Calls Tryd.prog 26 #[.pointer (some ⟨c, 0, none⟩), .int .i64 m] w fun e w' => ∃ b : Bool, e = .returned (.bool b) ∧ CurAt w' base c ao n cap ∧ w.grownBy w' (some c) := by
  go_enter Tryd.func26, Tryd.ntmps26
  go_wp2_with (go_at_call 41; refine (l1Below_any base c ao n cap m hm0 hm _ hC).mono ?_; rintro e w1 ⟨x, rfl, hx, hC1, hg1⟩)
  go_ret
  exact ⟨_, rfl, hC1, hg1⟩

end Go.Proofs.YtcmeppjfjledfaaDoor

/-
  A new cursor.
-/
set_option linter.unusedVariables false
set_option linter.unusedSimpArgs false
namespace Go.Proofs.YtcmeppjfjledfaaDoor
open Go.RowKit Go.Maps
attribute [local go_sem ↓] Go.wp_at_zero Go.wp_at_succ

set_option maxHeartbeats 1000000 in
theorem l1New_any (ao : Option Addr) (n cap : Nat) (hn : n ≤ 4096) (w : World) (hr : ByRow w w.heap.size ao n) :
    Calls Tryd.prog 24 #[.slice ao n cap] w fun e w' => ∃ c, e = .returned (.pointer (some ⟨c, 0, none⟩)) ∧ CurAt w' w.heap.size c ao n cap ∧ Below w.heap.size w w' := by
  go_enter Tryd.func24, Tryd.ntmps24
  go_wp2
  go_loopw [3, 4] (fun x i wr => ∃ (k : Nat) (h : Int), k ≤ n ∧ x = .int .i64 h ∧ i = .int .i64 k ∧ wr = w) (fun _ i _ => n - (intOf i).toNat)
  case atStart => exact ⟨0, _, Nat.zero_le _, rfl, rfl, rfl⟩
  case round =>
    obtain ⟨k, h, hk, rfl, rfl, rfl⟩ := hrel
    by_cases hlt : k < n
    · obtain ⟨b, o, v, hao, hbb, hcb, hv0, hv1⟩ := hr k hlt
      subst hao
      go_wp2
      go_roundw
      case rel => exact ⟨k + 1, _, by omega, rfl, by go_num, by first | trivial | rfl⟩
      case measure => simp [intOf]; omega
    · go_wp2
      go_ret
      refine ⟨_, rfl, ⟨Nat.le_refl _, hn, hr.below ((Below.refl _ _).alloc (Nat.le_refl _) _) (Nat.le_refl _), 0, h, by omega, by omega, ?_⟩, (Below.refl _ _).alloc (Nat.le_refl _) _⟩
      exact ⟨_, Go.Deep.blk_alloc_new _ _, by simp, fun j hj => by
        have : j = 0 ∨ j = 1 ∨ j = 2 := by omega
        rcases this with rfl | rfl | rfl <;> rfl⟩

end Go.Proofs.YtcmeppjfjledfaaDoor

/-
  The document's drawn maps: some map comes, in new memory; nothing that lay has turned but the cursor.
-/
set_option linter.unusedVariables false
set_option linter.unusedSimpArgs false
namespace Go.Proofs.YtcmeppjfjledfaaDoor
open Go.RowKit Go.Maps
attribute [local go_sem ↓] Go.wp_at_zero Go.wp_at_succ

theorem l1From_any (base c : Nat) (ao : Option Addr) (n cap : Nat) (w : World) (hC : CurAt w base c ao n cap) :
    Calls Tryd.prog 42 #[.pointer (some ⟨c, 0, none⟩), .int .i64 (-1), .int .i64 9] w fun e w' => ∃ x : Int, e = .returned (.int .i64 x) ∧ (-1 ≤ x ∧ x ≤ 9) ∧ CurAt w' base c ao n cap ∧ w.grownBy w' (some c) := by
  go_enter Tryd.func42, Tryd.ntmps42
  go_wp2_with (go_at_call 41; refine (l1Below_any base c ao n cap _ (by omega) (by omega) _ hC).mono ?_; rintro e w1 ⟨x, rfl, hx, hC1, hg1⟩)
  go_ret
  exact ⟨_, rfl, by omega, hC1, hg1⟩

theorem wfA {x : Int} (h : -9223372036854775808 ≤ x ∧ x ≤ 9223372036854775807) : (Lit.int .i64 x).wf = true := WalkArith.wf_i64 h
theorem wf_wrap (x : Int) : (Lit.int .i64 (IntKind.i64.wrap x)).wf = true := wfA (by rw [IntKind.wrap_i64]; omega)
/-- Some arcs of the call's own, n of them; their numbers fit their kind. -/
def AOwnE (w : World) (base : Nat) (ao : Option Addr) (n cap : Nat) : Prop := ∃ f : Nat → Int, (∀ j, (Lit.int .i64 (f j)).wf = true) ∧ w.ownsRow base 37 3 (.slice ao n cap) n (cellsOf f (n * 3))
theorem AOwnE.grown {w w' : World} {base n cap x : Nat} {ao : Option Addr} (h : AOwnE w base ao n cap) (hg : w.grownBy w' (some x)) (hx : x < base) : AOwnE w' base ao n cap := by
  obtain ⟨f, hw9, hl, h0 | ⟨g, cap', cur, hv, hb, hh, rest⟩⟩ := h
  · exact ⟨f, hw9, hl, .inl h0⟩
  · exact ⟨f, hw9, hl, .inr ⟨g, cap', cur, hv, hb, (hg.block g (Array.getElem?_eq_some_iff.1 hh).1 (by simp; omega)).trans hh, rest⟩⟩
theorem AOwnE.next {w w' : World} {base n cap : Nat} {ao : Option Addr} (h : AOwnE w base ao n cap) (hb : Below w.heap.size w w') : AOwnE w' base ao n cap := by
  obtain ⟨f, hw9, hl, h0 | ⟨g, cap', cur, hv, hb', hh, rest⟩⟩ := h
  · exact ⟨f, hw9, hl, .inl h0⟩
  · exact ⟨f, hw9, hl, .inr ⟨g, cap', cur, hv, hb', (hb.block g (Array.getElem?_eq_some_iff.1 hh).1).trans hh, rest⟩⟩
theorem AOwnE.from {w : World} {base base' n cap : Nat} {ao : Option Addr} (h : AOwnE w base ao n cap) (hb : base' ≤ base) : AOwnE w base' ao n cap := by
  obtain ⟨f, hw9, hl, h0 | ⟨g, cap', cur, hv, hb', rest⟩⟩ := h
  · exact ⟨f, hw9, hl, .inl h0⟩
  · exact ⟨f, hw9, hl, .inr ⟨g, cap', cur, hv, by omega, rest⟩⟩
theorem AOwnE.row {w : World} {base n cap : Nat} {ao : Option Addr} (h : AOwnE w base ao n cap) : ∃ F T G : Nat → Int, Row w ao n F T G ∧ (0 < n → ∃ g, ao = some ⟨g, 0, none⟩ ∧ base ≤ g) := by
  obtain ⟨f, hw9, hl, h0 | ⟨g, cap', cur, hv, hb', hh, h1, h2, h3, h4⟩⟩ := h
  · exact ⟨fun _ => 0, fun _ => 0, fun _ => 0, fun k hk => by omega, fun h => by omega⟩
  · simp at hv
    obtain ⟨rfl, rfl⟩ := hv
    have hc : ∀ j, j < n * 3 → w.cell? ⟨g, j, none⟩ = some (.int .i64 (f j)) := fun j hj => by
      have : (cur.toList.take (n * 3))[j]? = (cellsOf f (n * 3))[j]? := by rw [h4]
      rw [List.getElem?_take_of_lt hj, cellsOf, List.getElem?_map, List.getElem?_range hj] at this
      simp [World.cell?, hh]
      simpa using this
    exact ⟨fun k => f (k * 3), fun k => f (k * 3 + 1), fun k => f (k * 3 + 2), fun k hk => ⟨g, 0, rfl, by simpa using hc (k * 3) (by omega), by simpa using hc (k * 3 + 1) (by omega), by simpa using hc (k * 3 + 2) (by omega)⟩, fun _ => ⟨g, rfl, hb'⟩⟩
theorem AOwnE.rowW {w : World} {base n cap : Nat} {ao : Option Addr} (h : AOwnE w base ao n cap) : ∃ F T G : Nat → Int, Row w ao n F T G ∧ (∀ k, k < n → (Lit.int .i64 (F k)).wf = true ∧ (Lit.int .i64 (T k)).wf = true) ∧ (0 < n → ∃ g, ao = some ⟨g, 0, none⟩ ∧ base ≤ g) := by
  obtain ⟨f, hw9, hl, h0 | ⟨g, cap', cur, hv, hb', hh, h1, h2, h3, h4⟩⟩ := h
  · exact ⟨fun _ => 0, fun _ => 0, fun _ => 0, fun k hk => by omega, fun k hk => by omega, fun h => by omega⟩
  · simp at hv
    obtain ⟨rfl, rfl⟩ := hv
    have hc : ∀ j, j < n * 3 → w.cell? ⟨g, j, none⟩ = some (.int .i64 (f j)) := fun j hj => by
      have : (cur.toList.take (n * 3))[j]? = (cellsOf f (n * 3))[j]? := by rw [h4]
      rw [List.getElem?_take_of_lt hj, cellsOf, List.getElem?_map, List.getElem?_range hj] at this
      simp [World.cell?, hh]
      simpa using this
    exact ⟨fun k => f (k * 3), fun k => f (k * 3 + 1), fun k => f (k * 3 + 2), fun k hk => ⟨g, 0, rfl, by simpa using hc (k * 3) (by omega), by simpa using hc (k * 3 + 1) (by omega), by simpa using hc (k * 3 + 2) (by omega)⟩, fun k _ => ⟨hw9 _, hw9 _⟩, fun _ => ⟨g, rfl, hb'⟩⟩
/-- One arc more. -/
def put3 (f : Nat → Int) (m : Nat) (x y z : Int) (j : Nat) : Int := if j < m then f j else if j = m then x else if j = m + 1 then y else z
theorem put3_wf {f : Nat → Int} {m : Nat} {x y z : Int} (hf : ∀ j, (Lit.int .i64 (f j)).wf = true) (hx : (Lit.int .i64 x).wf = true) (hy : (Lit.int .i64 y).wf = true) (hz : (Lit.int .i64 z).wf = true) (j : Nat) : (Lit.int .i64 (put3 f m x y z j)).wf = true := by
  unfold put3
  split
  · exact hf j
  · split
    · exact hx
    · split
      · exact hy
      · exact hz
theorem cells_put3 (f : Nat → Int) (n : Nat) (x y z : Int) : cellsOf f (n * 3) ++ [.int .i64 x, .int .i64 y, .int .i64 z] = cellsOf (put3 f (n * 3) x y z) ((n + 1) * 3) := by
  have e : (n + 1) * 3 = n * 3 + 1 + 1 + 1 := by omega
  have h0 : cellsOf (put3 f (n * 3) x y z) (n * 3) = cellsOf f (n * 3) := by
    unfold cellsOf
    refine List.map_congr_left fun j hj => ?_
    have := List.mem_range.1 hj
    simp [put3, this]
  have s : ∀ m, cellsOf (put3 f (n * 3) x y z) (m + 1) = cellsOf (put3 f (n * 3) x y z) m ++ [.int .i64 (put3 f (n * 3) x y z m)] := fun m => by
    simp [cellsOf, List.range_succ]
  have g0 : put3 f (n * 3) x y z (n * 3) = x := by simp [put3]
  have g1 : put3 f (n * 3) x y z (n * 3 + 1) = y := by
    unfold put3
    rw [if_neg (by omega), if_neg (by omega), if_pos rfl]
  have g2 : put3 f (n * 3) x y z (n * 3 + 1 + 1) = z := by
    unfold put3
    rw [if_neg (by omega), if_neg (by omega), if_neg (by omega)]
  rw [e, s, s, s, h0, g0, g1, g2]
  simp
theorem news_arc {w : World} {B : Nat} {x y z : Int} {t : TypeId} (hb : w.heap[B]? = some (.cells #[.int .i64 x, .int .i64 y, .int .i64 z] t (0, 0))) : ∀ j u, [Value.int .i64 x, .int .i64 y, .int .i64 z][j]? = some u → w.cell? ((⟨B, 0, none⟩ : Addr).add j) = some u :=
  World.news_of_block hb
theorem one_arc (x y z : Int) : ∀ u ∈ [Value.int .i64 x, .int .i64 y, .int .i64 z], u.oneCell' = true := fun u hu => by
  simp at hu
  rcases hu with rfl | rfl | rfl <;> rfl

/-- The cells of a map in a box. -/
def grV (p : Int) (v : Value) (j : Nat) : Value := if j = 0 then .int .i64 p else v
/-- What stands while a map is drawn: the cursor, the map's box, its arcs. -/
structure DS (w : World) (base c : Nat) (ao : Option Addr) (n cap : Nat) (rb gb : Nat) (p : Int) (go : Option Addr) (k gc : Nat) (W : World) : Prop where
  cur : CurAt W base c ao n cap
  box : VHas W gb 26 2 (grV p (.slice go k gc))
  own : AOwnE W (rb + 1) go k gc
  ne : ∀ a, go = some a → a.block ≠ gb
  res : VHas W rb 26 2 (grV 0 (.slice none 0 0))
  gr : w.grownBy W (some c)
theorem DS.step {w : World} {base c : Nat} {ao : Option Addr} {n cap rb gb : Nat} {p : Int} {go : Option Addr} {k gc : Nat} {W W' : World} (h : DS w base c ao n cap rb gb p go k gc W) (hc : c < rb ∧ rb < gb) (hC : CurAt W' base c ao n cap) (hg : W.grownBy W' (some c)) : DS w base c ao n cap rb gb p go k gc W' :=
  ⟨hC, h.box.grown hg (by simp; omega), h.own.grown hg (by omega), h.ne, h.res.grown hg (by simp; omega), h.gr.trans hg⟩
theorem DS.next {w : World} {base c : Nat} {ao : Option Addr} {n cap rb gb : Nat} {p : Int} {go : Option Addr} {k gc : Nat} {W W' : World} (h : DS w base c ao n cap rb gb p go k gc W) (hb : Below W.heap.size W W') : DS w base c ao n cap rb gb p go k gc W' :=
  ⟨h.cur.next hb, h.box.next hb, h.own.next hb, h.ne, h.res.next hb, h.gr.trans (below_grown hb)⟩
theorem gr_new (w : World) (p : Int) (v : Value) : VHas (w.alloc (.cells #[.int .i64 p, v] 26)) w.heap.size 26 2 (grV p v) :=
  ⟨_, Go.Deep.blk_alloc_new _ _, by simp, fun j hj => by
    have : j = 0 ∨ j = 1 := by omega
    rcases this with rfl | rfl <;> rfl⟩
theorem aown_nil (w : World) (base : Nat) : AOwnE w base none 0 0 := ⟨fun _ => 0, fun _ => wfA (x := 0) (by omega), by simp [cellsOf], .inl ⟨rfl, rfl⟩⟩

/-- A step that turns a block far up alone. -/
theorem gr_far {w W W' : World} {c B : Nat} {row : Option Nat} (h : w.grownBy W (some c)) (hg : W.grownBy W' row) (hr : ∀ g, row = some g → B ≤ g) (hB : w.heap.size ≤ B) : w.grownBy W' (some c) :=
  ⟨hg.os.trans h.os, hg.tape.trans h.tape, hg.output.trans h.output, Nat.le_trans h.size hg.size, fun k hk hne => (hg.block k (Nat.lt_of_lt_of_le hk h.size) (fun e => by have := hr k e.symm; omega)).trans (h.block k hk hne)⟩
theorem CurAt.far {w w' : World} {base c B : Nat} {ao : Option Addr} {n cap : Nat} {row : Option Nat} (h : CurAt w base c ao n cap) (hg : w.grownBy w' row) (hr : ∀ g, row = some g → B ≤ g) (hB : c < B) : CurAt w' base c ao n cap := by
  obtain ⟨i, hh, h0, h1, hv⟩ := h.cur
  have hge := h.ge
  refine ⟨h.ge, h.len, fun k hk => ?_, i, hh, h0, h1, hv.grown hg (fun e => by have := hr c e.symm; omega)⟩
  obtain ⟨b, o, v, e, hb, hc, hv'⟩ := h.by_ k hk
  exact ⟨b, o, v, e, hb, hg.cell hc (fun e => by have := hr b e.symm; omega), hv'⟩
theorem AOwnE.at {w : World} {base n cap x : Nat} {ao : Option Addr} (h : AOwnE w base ao n cap) (e : (Value.slice ao n cap).ownBlock = some x) : base ≤ x ∧ x < w.heap.size := by
  obtain ⟨f, _, hf⟩ := h
  exact World.ownsRow.lt hf x e
theorem own_block {ao : Option Addr} {n cap x : Nat} (e : (Value.slice ao n cap).ownBlock = some x) : ∃ a, ao = some a ∧ a.block = x := by
  cases ao with
  | none => simp [Value.ownBlock] at e
  | some a => exact ⟨a, rfl, by simpa [Value.ownBlock] using e⟩
theorem DS.row {w : World} {base c : Nat} {ao : Option Addr} {n cap rb gb : Nat} {p : Int} {go : Option Addr} {k gc : Nat} {W : World} (h : DS w base c ao n cap rb gb p go k gc W) {x : Nat} (e : (Value.slice go k gc).ownBlock = some x) : rb + 1 ≤ x ∧ x ≠ gb := by
  obtain ⟨a, ha, rfl⟩ := own_block e
  exact ⟨(h.own.at e).1, h.ne a ha⟩
/-- Behind an append to the map's arcs: all but the box's second cell stands. -/
theorem DS.appended {w : World} {base c : Nat} {ao : Option Addr} {n cap rb gb : Nat} {p : Int} {go : Option Addr} {k gc : Nat} {W W' : World} (h : DS w base c ao n cap rb gb p go k gc W) (hc : (c < rb ∧ rb < gb) ∧ w.heap.size ≤ rb) (hg : W.grownBy W' (Value.slice go k gc).ownBlock) {g' k' gc' : Nat} (hown : AOwnE W' (rb + 1) (some ⟨g', 0, none⟩) k' gc') (hat : (Value.slice go k gc).ownBlock = some g' ∨ g' = W.heap.size) :
    DS w base c ao n cap rb gb p (some ⟨g', 0, none⟩) k' gc' (W'.setCell ⟨gb, 1, none⟩ (.slice (some ⟨g', 0, none⟩) k' gc')) := by
  have hr : ∀ g, (Value.slice go k gc).ownBlock = some g → rb + 1 ≤ g := fun g e => (h.row e).1
  have hgl := h.box.lt
  have hng : g' ≠ gb := by
    rcases hat with e | e
    · exact (h.row e).2
    · omega
  have hs := gr_setCell W' gb 1 (.slice (some ⟨g', 0, none⟩) k' gc')
  have hbx := h.box.grown hg (fun e => (h.row e.symm).2 rfl)
  have hge := h.cur.ge
  refine ⟨(h.cur.far hg hr (by omega)).grown hs (by omega) (by omega), (hbx.set 1 _).congr (fun j hj => ?_), ?_, fun a e => by cases e; exact hng, (h.res.grown hg (fun e => by have := hr rb e.symm; omega)).grown hs (by simp; omega), ?_⟩
  · have : j = 0 ∨ j = 1 := by omega
    rcases this with rfl | rfl <;> rfl
  · obtain ⟨f, hw9, hl, h0 | ⟨g, cap', cur, hv, hb, hh, rest⟩⟩ := hown
    · simp at h0
    · have hv' := hv
      simp at hv'
      exact ⟨f, hw9, hl, .inr ⟨g, cap', cur, hv, hb, (hs.block g (Array.getElem?_eq_some_iff.1 hh).1 (by simp; omega)).trans hh, rest⟩⟩
  · have h1 := gr_far h.gr hg hr (by omega)
    exact gr_far (row := some gb) h1 hs (fun g e => by cases e; exact Nat.le_refl _) (by omega)

theorem wp_append_arc {o : Oper} {a : Act} {w : World} {K : Act → World → Prop} {Q : Exit → Act → World → Prop} (s x : Operand)
    (ho : o.op = .call { callee := .builtin .append, args := #[s, x], argTypes := #[24, 24] }) (base k gc : Nat) (go : Option Addr) (hs : a.eval s = .slice go k gc) (hown : AOwnE w base go k gc) (B : Nat) (hx : a.eval x = .slice (some ⟨B, 0, none⟩) 1 1)
    (X Y Z : Int) (hB : w.heap[B]? = some (.cells #[.int .i64 X, .int .i64 Y, .int .i64 Z] 37 (0, 0))) (hk : k ≤ 1000) (hbase : base ≤ w.heap.size) (hX9 : (Lit.int .i64 X).wf = true) (hY9 : (Lit.int .i64 Y).wf = true) (hZ9 : (Lit.int .i64 Z).wf = true)
    (h : ∀ g' gc' w', AOwnE w' base (some ⟨g', 0, none⟩) (k + 1) gc' → w.grownBy w' (Value.slice go k gc).ownBlock → ((Value.slice go k gc).ownBlock = some g' ∨ g' = w.heap.size) → K (a.put o.dst (.slice (some ⟨g', 0, none⟩) (k + 1) gc')) w') : o.wp Tryd.prog a w K Q := by
  obtain ⟨i0, hi0, hz0, hz1, hz2⟩ := info_parts Tryd.infoArc
  obtain ⟨f, hw9, hown⟩ := hown
  refine wp_append_lies w s x 24 ho base 37 i0 _ 3 24 Tryd.underlying24 hi0 hz0 hz1 hz2 rfl (by omega) _ k (cellsOf f (k * 3)) hs hown ⟨B, 0, none⟩ 1 1 [.int .i64 X, .int .i64 Y, .int .i64 Z] hx rfl (news_arc hB) (one_arc _ _ _) (by omega) (by unfold maxLen; omega) (by omega) hbase w.heap.size rfl ?_
  intro g' gc' w' hown' hgrow hat _
  rw [cells_put3] at hown'
  exact h g' gc' w' ⟨_, put3_wf hw9 hX9 hY9 hZ9, hown'⟩ hgrow hat
theorem step_append_arc {ops : Array Oper} {o : Oper} {a : Act} {w : World} {K : Act → World → Prop} {Q : Exit → Act → World → Prop} {E : Prop} (hgd : o.guard = none) (s x : Operand)
    (ho : o.op = .call { callee := .builtin .append, args := #[s, x], argTypes := #[24, 24] }) (base k gc : Nat) (go : Option Addr) (hs : a.eval s = .slice go k gc) (hown : AOwnE w base go k gc) (B : Nat) (hx : a.eval x = .slice (some ⟨B, 0, none⟩) 1 1)
    (X Y Z : Int) (hB : w.heap[B]? = some (.cells #[.int .i64 X, .int .i64 Y, .int .i64 Z] 37 (0, 0))) (hk : k ≤ 1000) (hbase : base ≤ w.heap.size) (hX9 : (Lit.int .i64 X).wf = true) (hY9 : (Lit.int .i64 Y).wf = true) (hZ9 : (Lit.int .i64 Z).wf = true)
    (h : ∀ g' gc' w', AOwnE w' base (some ⟨g', 0, none⟩) (k + 1) gc' → w.grownBy w' (Value.slice go k gc).ownBlock → ((Value.slice go k gc).ownBlock = some g' ∨ g' = w.heap.size) → K (a.put o.dst (.slice (some ⟨g', 0, none⟩) (k + 1) gc')) w') :
    if Region.wanted o (yielded ops a.tmps) = true then Oper.wp Tryd.prog o a w K Q else E := by
  have hw : Region.wanted o (yielded ops a.tmps) = true := by simp [Region.wanted, hgd]
  rw [if_pos hw]
  exact wp_append_arc s x ho base k gc go hs hown B hx X Y Z hB hk hbase hX9 hY9 hZ9 h
theorem wpList_append_arc {ops : Array Oper} {rest : List Oper} {o : Oper} {a : Act} {w : World} {Q : Exit → Act → World → Prop} (hgd : o.guard = none) (s x : Operand)
    (ho : o.op = .call { callee := .builtin .append, args := #[s, x], argTypes := #[24, 24] }) (base k gc : Nat) (go : Option Addr) (hs : a.eval s = .slice go k gc) (hown : AOwnE w base go k gc) (B : Nat) (hx : a.eval x = .slice (some ⟨B, 0, none⟩) 1 1)
    (X Y Z : Int) (hB : w.heap[B]? = some (.cells #[.int .i64 X, .int .i64 Y, .int .i64 Z] 37 (0, 0))) (hk : k ≤ 1000) (hbase : base ≤ w.heap.size) (hX9 : (Lit.int .i64 X).wf = true) (hY9 : (Lit.int .i64 Y).wf = true) (hZ9 : (Lit.int .i64 Z).wf = true)
    (h : ∀ g' gc' w', AOwnE w' base (some ⟨g', 0, none⟩) (k + 1) gc' → w.grownBy w' (Value.slice go k gc).ownBlock → ((Value.slice go k gc).ownBlock = some g' ∨ g' = w.heap.size) → wpList Tryd.prog ops Q rest (a.put o.dst (.slice (some ⟨g', 0, none⟩) (k + 1) gc')) w') : wpList Tryd.prog ops Q (o :: rest) a w :=
  wpList_plain hgd fun _ hK => wp_append_arc s x ho base k gc go hs hown B hx X Y Z hB hk hbase hX9 hY9 hZ9 fun g' gc' w' h1 h2 h3 => hK _ _ (h g' gc' w' h1 h2 h3)

/-- The box of a result, once it is filled. -/
theorem res_cells {w : World} {rb : Nat} (h : VHas w rb 26 2 (grV 0 (.slice none 0 0))) (p : Int) (v : Value) : (w.setCell ⟨rb, 0, none⟩ (.int .i64 p)).cell? ⟨rb, 0, none⟩ = some (.int .i64 p) ∧ ((w.setCell ⟨rb, 0, none⟩ (.int .i64 p)).setCell ⟨rb, 1, none⟩ v).cell? ⟨rb, 0, none⟩ = some (.int .i64 p) ∧ ((w.setCell ⟨rb, 0, none⟩ (.int .i64 p)).setCell ⟨rb, 1, none⟩ v).cell? ⟨rb, 1, none⟩ = some v :=
  ⟨(h.set 0 (.int .i64 p)).cell (j := 0) (by omega), ((h.set 0 (.int .i64 p)).set 1 v).cell (j := 0) (by omega), ((h.set 0 (.int .i64 p)).set 1 v).cell (j := 1) (by omega)⟩
/-- What stands behind a map's return. -/
theorem DS.out {w : World} {base c : Nat} {ao : Option Addr} {n cap rb gb : Nat} {p : Int} {go : Option Addr} {k gc : Nat} {W : World} (h : DS w base c ao n cap rb gb p go k gc W) (hc : (c < rb ∧ rb < gb) ∧ w.heap.size ≤ rb) (v0 v1 : Value) :
    AOwnE ((W.setCell ⟨rb, 0, none⟩ v0).setCell ⟨rb, 1, none⟩ v1) rb go k gc ∧ CurAt ((W.setCell ⟨rb, 0, none⟩ v0).setCell ⟨rb, 1, none⟩ v1) base c ao n cap ∧ w.grownBy ((W.setCell ⟨rb, 0, none⟩ v0).setCell ⟨rb, 1, none⟩ v1) (some c) := by
  have h1 := gr_setCell W rb 0 v0
  have h2 := gr_setCell (W.setCell ⟨rb, 0, none⟩ v0) rb 1 v1
  have hge := h.cur.ge
  refine ⟨((h.own.grown h1 (by omega)).grown h2 (by omega)).from (by omega), (h.cur.grown h1 (by omega) (by omega)).grown h2 (by omega) (by omega), ?_⟩
  exact gr_far (gr_far h.gr h1 (fun g e => by cases e; exact Nat.le_refl _) hc.2) h2 (fun g e => by cases e; exact Nat.le_refl _) hc.2

end Go.Proofs.YtcmeppjfjledfaaDoor

/-
  The document's l1Draw: some map comes.
-/
set_option linter.unusedVariables false
set_option linter.unusedSimpArgs false
namespace Go.Proofs.YtcmeppjfjledfaaDoor
open Go.RowKit Go.Maps
attribute [local go_sem ↓] Go.wp_at_zero Go.wp_at_succ

set_option maxRecDepth 100000 in
set_option maxHeartbeats 4000000 in
theorem l1Draw_any (base c : Nat) (ao : Option Addr) (n cap : Nat) (w : World) (hC : CurAt w base c ao n cap) :
    Calls Tryd.prog 40 #[.pointer (some ⟨c, 0, none⟩)] w fun e w' => ∃ (p : Nat) (go : Option Addr) (k gc : Nat), e = .returned (.agg #[.int .i64 (p : Int), .slice go k gc]) ∧ (1 ≤ p ∧ p ≤ 9) ∧ k ≤ 81 ∧ AOwnE w' w.heap.size go k gc ∧ CurAt w' base c ao n cap ∧ w.grownBy w' (some c) := by
  have hcl := hC.lt
  have hC0 := hC.next ((Below.refl _ w).alloc (Nat.le_refl _) (.cells #[.int .i64 0, .slice none 0 0] 26))
  go_enter Tryd.func40, Tryd.ntmps40
  go_wp2_with fail
  refine (l1Below_any base c ao n cap 9 (by omega) (by omega) _ hC0).mono ?_
  rintro e w1 ⟨x, rfl, hx, hC1, hg1⟩
  have hrb1 := (gr_new w 0 (.slice none 0 0)).grown hg1 (by simp; omega)
  have hs1 := hrb1.lt
  have hD1 : DS w base c ao n cap w.heap.size w1.heap.size ((x + 1 : Nat) : Int) none 0 0 (w1.alloc (.cells #[.int .i64 ((x + 1 : Nat) : Int), .slice none 0 0] 26)) :=
    ⟨hC1.next ((Below.refl _ w1).alloc (Nat.le_refl _) _), gr_new w1 _ _, aown_nil _ _, (fun a e => by cases e), hrb1.alloc _, ((World.grownBy_alloc w _ _).trans hg1).trans (World.grownBy_alloc w1 _ _)⟩
  have hx9 : x + 1 ≤ 9 := by omega
  have hx1 : 1 ≤ x + 1 := by omega
  go_wp2_with fail
  have hp : (1 + (x : Int)) = ((x + 1 : Nat) : Int) := by omega
  rw [hp]
  clear hp
  generalize x + 1 = p at hD1 hx9 hx1 ⊢
  refine (l1Below_any base c ao n cap 5 (by omega) (by omega) _ hD1.cur).mono ?_
  rintro e w2 ⟨y, rfl, hy, hC2, hg2⟩
  have hD2 := hD1.step ⟨hcl, hs1⟩ hC2 hg2
  clear hD1 hC2 hg2 hC1 hg1 hrb1
  obtain ⟨gb, hgb⟩ : ∃ gb, w1.heap.size = gb := ⟨_, rfl⟩
  rw [hgb] at hD2 hs1 ⊢
  clear hgb
  obtain ⟨i0, hi0, hz0, hz1, hz2⟩ := info_parts Tryd.infoArc
  have hgw : w.heap.size ≤ gb := by omega
  go_wp2_with fail
  go_loopw [5] (fun x wr => ∃ (a k gc : Nat) (go : Option Addr), a ≤ p ∧ k ≤ 9 * a ∧ x = .int .i64 a ∧ DS w base c ao n cap w.heap.size gb p go k gc wr) (fun x _ => p - (intOf x).toNat)
  case atStart => exact ⟨0, 0, 0, none, Nat.zero_le _, Nat.zero_le _, rfl, hD2⟩
  case round =>
    clear hD2
    obtain ⟨a, k, gc, go, ha, hk, rfl, hD⟩ := hrel
    have b0 : wr.cell? ⟨gb, 0, none⟩ = some (.int .i64 (p : Int)) := hD.box.cell (j := 0) (by omega)
    have b1 : wr.cell? ⟨gb, 1, none⟩ = some (.slice go k gc) := hD.box.cell (j := 1) (by omega)
    by_cases hlt : a < p
    rotate_left
    · have hap : a = p := by omega
      subst hap
      have r0 : wr.cell? ⟨w.heap.size, 0, none⟩ = some (.int .i64 0) := hD.res.cell (j := 0) (by omega)
      have r1 : wr.cell? ⟨w.heap.size, 1, none⟩ = some (.slice none 0 0) := hD.res.cell (j := 1) (by omega)
      have z0 := hD.res.frozen 0
      have z1 := hD.res.frozen 1
      obtain ⟨q0, q1, q2⟩ := res_cells hD.res (a : Int) (.slice go k gc)
      obtain ⟨o1, o2, o3⟩ := hD.out ⟨⟨hcl, hs1⟩, Nat.le_refl _⟩ (.int .i64 (a : Int)) (.slice go k gc)
      go_wp2
      simp [bodyPost, results, Tryd.results40, go_sem, q0, q1, q2]
      exact ⟨a, go, k, gc, ⟨rfl, rfl, rfl, rfl⟩, ⟨hx1, hx9⟩, by omega, o1, o2, o3⟩
    have hlt' : (a : Int) < (p : Int) := by omega
    go_wp2
    go_loopw [6] (fun x wr2 => ∃ (b k gc : Nat) (go : Option Addr), b ≤ p ∧ k ≤ 9 * a + b ∧ x = .int .i64 b ∧ DS w base c ao n cap w.heap.size gb p go k gc wr2) (fun x _ => p - (intOf x).toNat)
    case atStart => exact ⟨0, k, gc, go, Nat.zero_le _, by omega, rfl, hD⟩
    case round =>
      clear hD b0 b1 hk k gc go
      obtain ⟨b, k, gc, go, hb, hk, rfl, hD⟩ := hrel
      have b0 : wr.cell? ⟨gb, 0, none⟩ = some (.int .i64 (p : Int)) := hD.box.cell (j := 0) (by omega)
      by_cases hltb : b < p
      rotate_left
      · have hbp : b = p := by omega
        subst hbp
        go_wp2
        go_roundw
        case rel => exact ⟨a + 1, k, gc, go, by omega, by omega, by go_num, hD⟩
        case measure => simp [intOf]; omega
      have hltb' : (b : Int) < (p : Int) := by omega
      by_cases hab : a = b
      · subst hab
        go_wp2
        go_roundw
        case rel => exact ⟨a + 1, k, gc, go, by omega, by omega, by go_num, hD⟩
        case measure => simp [intOf]; omega
      have hab' : ¬ (a : Int) = (b : Int) := by omega
      by_cases hba : b = a + 1
      · subst hba
        clear hab hab' hltb'
        have hltb2 : (a : Int) + 1 < (p : Int) := by omega
        have hab2 : ¬ (a : Int) = (a : Int) + 1 := by omega
        have hab3 : ((a : Int) != (a : Int) + 1) = true := by rw [bne_iff_ne]; omega
        go_wp2_with fail
        refine (l1Once_any base c ao n cap _ (by omega) (by omega) _ hD.cur).mono ?_
        rintro e w9 ⟨bx, rfl, hC9, hg9⟩
        have hD9 := hD.step ⟨hcl, hs1⟩ hC9 hg9
        clear hC9 hg9 hD b0
        cases bx
        · go_wp2_with fail
          refine (l1Once_any base c ao n cap _ (by omega) (by omega) _ hD9.cur).mono ?_
          rintro e w10 ⟨bx, rfl, hC10, hg10⟩
          have hD10 := hD9.step ⟨hcl, hs1⟩ hC10 hg10
          clear hC10 hg10 hD9
          cases bx
          · skip
            have b1 : w10.cell? ⟨gb, 1, none⟩ = some (.slice go k gc) := hD10.box.cell (j := 1) (by omega)
            have hDd := hD10.next (Below.refl _ w10).drew
            clear hD10
            go_wp2
            go_region_law (first | (go_simp; go_at_call 41; refine (l1Below_any base c ao n cap 20 (by omega) (by omega) _ hDd.cur).mono ?_; rintro e w5 ⟨zz, rfl, hzz, hC5, hg5⟩; have hD5 := hDd.step ⟨hcl, hs1⟩ hC5 hg5; have b5 : w5.cell? ⟨gb, 1, none⟩ = some (.slice go k gc) := hD5.box.cell (j := 1) (by omega); have hl5 := hD5.box.lt) | (refine step_append_arc ?_ (.tmp 47) (.tmp 54) ?_ (w.heap.size + 1) k gc go ?_ (hD5.own.next ((Below.refl _ _).alloc (Nat.le_refl _) _)) w5.heap.size ?_ _ _ _ (Go.Deep.blk_alloc_new _ _) (by omega) (by have := hD5.box.lt; simp; omega) (by first | exact wfA (by omega) | exact wf_wrap _) (by first | exact wfA (by omega) | exact wf_wrap _) (by first | exact wfA (by omega) | exact wf_wrap _) ?_; rfl; rfl; rfl; rfl; intro g' gc' w6 hown6 hgrow hr6; have hbx6 := (hD5.box.alloc _).grown hgrow (fun e => (hD5.row e.symm).2 rfl); have hb6 : w6.cell? ⟨gb, 1, none⟩ = some (.slice go k gc) := hbx6.cell (j := 1) (by omega); have hz6 := hbx6.frozen 1))
            all_goals
              have R := (hD5.next ((Below.refl _ _).alloc (Nat.le_refl _) _)).appended ⟨⟨hcl, hs1⟩, Nat.le_refl _⟩ hgrow hown6 hr6
              clear hbx6 hb6 hz6 hD5 hgrow hDd hown6 hC5 hg5
              go_wp2
              go_roundw
              case rel => exact ⟨a + 1 + 1, k + 1, gc', _, by omega, by omega, by go_num, R⟩
              case measure => simp [intOf]; omega
          · go_wp2
            go_roundw
            case rel => exact ⟨a + 1 + 1, k, gc, go, by omega, by omega, by go_num, hD10⟩
            case measure => simp [intOf]; omega
        · skip
          have b1 : w9.cell? ⟨gb, 1, none⟩ = some (.slice go k gc) := hD9.box.cell (j := 1) (by omega)
          have hDd := hD9.next (Below.refl _ w9).drew
          clear hD9
          go_wp2
          go_region_law (first | (go_simp; go_at_call 41; refine (l1Below_any base c ao n cap 20 (by omega) (by omega) _ hDd.cur).mono ?_; rintro e w5 ⟨zz, rfl, hzz, hC5, hg5⟩; have hD5 := hDd.step ⟨hcl, hs1⟩ hC5 hg5; have b5 : w5.cell? ⟨gb, 1, none⟩ = some (.slice go k gc) := hD5.box.cell (j := 1) (by omega); have hl5 := hD5.box.lt) | (refine step_append_arc ?_ (.tmp 47) (.tmp 54) ?_ (w.heap.size + 1) k gc go ?_ (hD5.own.next ((Below.refl _ _).alloc (Nat.le_refl _) _)) w5.heap.size ?_ _ _ _ (Go.Deep.blk_alloc_new _ _) (by omega) (by have := hD5.box.lt; simp; omega) (by first | exact wfA (by omega) | exact wf_wrap _) (by first | exact wfA (by omega) | exact wf_wrap _) (by first | exact wfA (by omega) | exact wf_wrap _) ?_; rfl; rfl; rfl; rfl; intro g' gc' w6 hown6 hgrow hr6; have hbx6 := (hD5.box.alloc _).grown hgrow (fun e => (hD5.row e.symm).2 rfl); have hb6 : w6.cell? ⟨gb, 1, none⟩ = some (.slice go k gc) := hbx6.cell (j := 1) (by omega); have hz6 := hbx6.frozen 1))
          all_goals
            have R := (hD5.next ((Below.refl _ _).alloc (Nat.le_refl _) _)).appended ⟨⟨hcl, hs1⟩, Nat.le_refl _⟩ hgrow hown6 hr6
            clear hbx6 hb6 hz6 hD5 hgrow hDd hown6 hC5 hg5
            go_wp2
            go_roundw
            case rel => exact ⟨a + 1 + 1, k + 1, gc', _, by omega, by omega, by go_num, R⟩
            case measure => simp [intOf]; omega
      · have hba2 : ¬ (b : Int) = (a : Int) + 1 := by omega
        have hab3 : ((a : Int) != (b : Int)) = true := by rw [bne_iff_ne]; omega
        go_wp2_with fail
        refine (l1Once_any base c ao n cap _ (by omega) (by omega) _ hD.cur).mono ?_
        rintro e w9 ⟨bx, rfl, hC9, hg9⟩
        have hD9 := hD.step ⟨hcl, hs1⟩ hC9 hg9
        clear hC9 hg9 hD b0
        cases bx
        · go_wp2
          go_roundw
          case rel => exact ⟨b + 1, k, gc, go, by omega, by omega, by go_num, hD9⟩
          case measure => simp [intOf]; omega
        · skip
          have b1 : w9.cell? ⟨gb, 1, none⟩ = some (.slice go k gc) := hD9.box.cell (j := 1) (by omega)
          have hDd := hD9.next (Below.refl _ w9).drew
          clear hD9
          go_wp2
          go_region_law (first | (go_simp; go_at_call 41; refine (l1Below_any base c ao n cap 20 (by omega) (by omega) _ hDd.cur).mono ?_; rintro e w5 ⟨zz, rfl, hzz, hC5, hg5⟩; have hD5 := hDd.step ⟨hcl, hs1⟩ hC5 hg5; have b5 : w5.cell? ⟨gb, 1, none⟩ = some (.slice go k gc) := hD5.box.cell (j := 1) (by omega); have hl5 := hD5.box.lt) | (refine step_append_arc ?_ (.tmp 47) (.tmp 54) ?_ (w.heap.size + 1) k gc go ?_ (hD5.own.next ((Below.refl _ _).alloc (Nat.le_refl _) _)) w5.heap.size ?_ _ _ _ (Go.Deep.blk_alloc_new _ _) (by omega) (by have := hD5.box.lt; simp; omega) (by first | exact wfA (by omega) | exact wf_wrap _) (by first | exact wfA (by omega) | exact wf_wrap _) (by first | exact wfA (by omega) | exact wf_wrap _) ?_; rfl; rfl; rfl; rfl; intro g' gc' w6 hown6 hgrow hr6; have hbx6 := (hD5.box.alloc _).grown hgrow (fun e => (hD5.row e.symm).2 rfl); have hb6 : w6.cell? ⟨gb, 1, none⟩ = some (.slice go k gc) := hbx6.cell (j := 1) (by omega); have hz6 := hbx6.frozen 1))
          all_goals
            have R := (hD5.next ((Below.refl _ _).alloc (Nat.le_refl _) _)).appended ⟨⟨hcl, hs1⟩, Nat.le_refl _⟩ hgrow hown6 hr6
            clear hbx6 hb6 hz6 hD5 hgrow hDd hown6 hC5 hg5
            go_wp2
            go_roundw
            case rel => exact ⟨b + 1, k + 1, gc', _, by omega, by omega, by go_num, R⟩
            case measure => simp [intOf]; omega

end Go.Proofs.YtcmeppjfjledfaaDoor
