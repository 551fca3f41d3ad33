/-
  The document's text of a map: for a map whose numbers are not below nought and not too great.
-/
import Derived.Test.YtapfheagchihhaeDoorBytes
set_option linter.unusedVariables false
set_option linter.unusedSimpArgs false
namespace Go.Proofs.YtapfheagchihhaeDoor
open Go.RowKit
attribute [local go_sem ↓] Go.wp_at_zero Go.wp_at_succ

def dec (n : Int) : List UInt8 := Lib.decDigits n.toNat
def arcT (f t g : Int) : List UInt8 := 32 :: (dec f ++ (32 :: (dec t ++ (32 :: dec g))))
def showT (p : Int) (F T G : Nat → Int) : Nat → List UInt8
  | 0 => dec p
  | k + 1 => showT p F T G k ++ arcT (F k) (T k) (G k)
def Small (n : Nat) (F T G : Nat → Int) : Prop := ∀ k, k < n → (0 ≤ F k ∧ F k ≤ 1000000) ∧ (0 ≤ T k ∧ T k ≤ 1000000) ∧ (0 ≤ G k ∧ G k ≤ 1000000)

theorem dec_len {n : Int} (h0 : 0 ≤ n) (h1 : n ≤ 1000000) : (dec n).length ≤ 1000001 := by
  have := decDigits_len n.toNat
  unfold dec; omega
theorem arcT_len {f t g : Int} (hf : 0 ≤ f ∧ f ≤ 1000000) (ht : 0 ≤ t ∧ t ≤ 1000000) (hg : 0 ≤ g ∧ g ≤ 1000000) : (arcT f t g).length ≤ 4000000 := by
  have a := dec_len hf.1 hf.2
  have b := dec_len ht.1 ht.2
  have c := dec_len hg.1 hg.2
  simp [arcT]; omega
theorem showT_len {p : Int} {F T G : Nat → Int} (hp : 0 ≤ p ∧ p ≤ 1000000) : ∀ n, Small n F T G → (showT p F T G n).length ≤ 4000000 * (n + 1)
  | 0, _ => by have := dec_len hp.1 hp.2; simp [showT]; omega
  | n + 1, h => by
    have := showT_len hp n (fun k hk => h k (by omega))
    obtain ⟨a, b, c⟩ := h n (by omega)
    have := arcT_len a b c
    simp [showT]; omega

theorem decDigits_pos (u : Nat) : 0 < (Lib.decDigits u).length := by
  by_cases hu : u < 10
  · rw [decDigits_one hu]; simp
  · rw [decDigits_ten (by omega)]; simp
theorem showT_pos {p : Int} {F T G : Nat → Int} : ∀ k, 0 < (showT p F T G k).length
  | 0 => decDigits_pos _
  | k + 1 => by have := showT_pos (p := p) (F := F) (T := T) (G := G) k; simp [showT]; omega

theorem conv_bytes (s : ByteArray) (w : World) : (convert 9 54 (.string s)).run Tryd.prog w = .ok (.slice (some ⟨w.heap.size, 0, none⟩) s.size (grownCap w s.size 0 5))
      (w.drew.alloc (.cells (bytesRow s (grownCap w s.size 0 5)) 5 ((bytesRow s (grownCap w s.size 0 5)).size, (bytesRow s (grownCap w s.size 0 5)).size + 1))) :=
  run_bytes_of_string w 9 54 5 s Tryd.underlying9 Tryd.underlying54 Tryd.underlying5
theorem brow_new (l : List UInt8) (w : World) (cap : Nat) (hcap : l.length ≤ cap) :
    BRow (w.alloc (.cells (bytesRow ⟨l.toArray⟩ cap) 5 ((bytesRow ⟨l.toArray⟩ cap).size, (bytesRow ⟨l.toArray⟩ cap).size + 1))).drew w.heap.size cap l := by
  have hb : (w.alloc (.cells (bytesRow ⟨l.toArray⟩ cap) 5 ((bytesRow ⟨l.toArray⟩ cap).size, (bytesRow ⟨l.toArray⟩ cap).size + 1))).drew.heap[w.heap.size]? = some (.cells (bytesRow ⟨l.toArray⟩ cap) 5 ((bytesRow ⟨l.toArray⟩ cap).size, (bytesRow ⟨l.toArray⟩ cap).size + 1)) := heap_alloc_new w _
  have hsz : (bytesRow ⟨l.toArray⟩ cap).size = cap := by simp [bytesRow, ByteArray.size]; omega
  refine ⟨hcap, fun j hj => ⟨?_, ?_⟩, fun j c hc => ?_⟩
  · simp only [World.cell?, hb]
    rw [Array.getElem?_eq_getElem (by rw [hsz]; exact hj)]
    rfl
  · simp only [World.frozen?, hb]
    simp; omega
  · have hjl : j < l.length := (List.getElem?_eq_some_iff.1 hc).1
    simp only [World.cell?, hb]
    rw [bytesRow, Array.getElem?_append_left (by simpa using hjl)]
    simp [hc]
theorem conv_txt {w : World} {g cap : Nat} {l : List UInt8} (h : BRow w g cap l) : (convert 54 9 (.slice (some ⟨g, 0, none⟩) l.length cap)).run Tryd.prog w = .ok (txt l) w := by
  rw [run_convert_bytes_string _ 54 9 5 _ _ _ Tryd.underlying54 Tryd.underlying5 Tryd.underlying9]
  have hl := run_loadCells_list (P := Tryd.prog) w ⟨g, 0, none⟩ (bcells l) (fun j u hu => by
    rw [bcells_at] at hu
    simp at hu
    obtain ⟨c, hc, rfl⟩ := hu
    rw [Addr.add_mid]
    simpa using h.2.2 j c hc)
  have e : bcells l = (l.map fun b => (b.toNat : Int)).map (Value.int .u8) := by simp [bcells]
  rw [e] at hl
  simp only [List.length_map] at hl
  rw [run_bytesToString _ _ l.length cap _ hl]
  have key : ∀ (xs : List UInt8) (r : ByteArray), (xs.map fun b => (b.toNat : Int)).foldl (fun r n => r.push (UInt8.ofNat n.toNat)) r = ⟨(r.data.toList ++ xs).toArray⟩ := by
    intro xs
    induction xs with
    | nil => intro r; apply ByteArray.ext; simp
    | cons x xs ih => intro r; simp only [List.map_cons, List.foldl_cons]; rw [ih]; apply ByteArray.ext; simp
  rw [key]
  rfl

/-- One arc's numbers, as the document's text adds them up. -/
theorem arc_add (a b c : List UInt8) : ((((({ data := #[32] } : ByteArray) ++ { data := a.toArray }) ++ { data := #[32] }) ++ { data := b.toArray }) ++ { data := #[32] }) ++ { data := c.toArray } = (⟨(32 :: (a ++ (32 :: (b ++ (32 :: c))))).toArray⟩ : ByteArray) := by
  apply ByteArray.ext
  simp

theorem l1Int_dec (n : Int) (h0 : 0 ≤ n) (h1 : n ≤ 1000000) (w : World) :
    Calls Tryd.prog 29 #[.int .i64 n] w fun e w' => e = .returned (txt (dec n)) ∧ Below w.heap.size w w' := by
  obtain ⟨N, rfl⟩ := Int.eq_ofNat_of_zero_le h0
  refine (l1Int_any N (by omega) w).mono ?_
  rintro e w' ⟨rfl, hb⟩
  exact ⟨rfl, hb⟩

set_option maxRecDepth 20000 in
set_option maxHeartbeats 2000000 in
theorem l1Show_any (p : Int) (ao : Option Addr) (n cap : Nat) (F T G : Nat → Int) (hn : n ≤ 100) (hp : 0 ≤ p ∧ p ≤ 1000000) (hs : Small n F T G) (w : World) (hr : Row w ao n F T G) :
    Calls Tryd.prog 16 #[.agg #[.int .i64 p, .slice ao n cap]] w fun e w' => e = .returned (txt (showT p F T G n)) ∧ Below w.heap.size w w' := by
  have hcb := conv_bytes
  have HP : Hid (0 ≤ p ∧ p ≤ 1000000) := hp
  obtain ⟨hp0, hp1⟩ := hp
  have hpl := dec_len hp0 hp1
  go_enter Tryd.func16, Tryd.ntmps16
  go_wp2_with (go_at_call 29; refine (l1Int_dec p hp0 hp1 _).mono ?_; rintro e w1 ⟨rfl, hb1⟩)
  clear hcb
  have hA := hb1.mono (B' := w.heap.size + 1) (by simp)
  have hb0 := brow_new (dec p) w1 (grownCap w1 (dec p).length 0 5) (grownCap_ge w1 _ 0 5)
  have hsz1 : w.heap.size + 1 ≤ w1.heap.size := by have := hb1.size; simp at this; omega
  go_loopw [3, 4] (fun b i wr => ∃ k : Nat, k ≤ n ∧ i = .int .i64 k ∧ ∃ g cap', b = .slice (some ⟨g, 0, none⟩) (showT p F T G k).length cap' ∧ w.heap.size + 1 ≤ g ∧ BRow wr g cap' (showT p F T G k) ∧ Below (w.heap.size + 1) (w.alloc (.cells #[.int .i64 p, .slice ao n cap] 29)) wr) (fun _ i _ => n - (intOf i).toNat)
  case atStart => exact ⟨0, Nat.zero_le _, rfl, w1.heap.size, _, rfl, hsz1, hb0, (hA.alloc hsz1 _).drew⟩
  case round =>
    clear hb0 hA hb1 hsz1
    obtain ⟨k, hk, rfl, g, cap', rfl, hg, hb, hbel⟩ := hrel
    have g0 : wr.cell? ⟨w.heap.size, 0, none⟩ = some (.int .i64 p) := by rw [hbel.cell (by simp)]; simp [go_sem]
    have g1 : wr.cell? ⟨w.heap.size, 1, none⟩ = some (.slice ao n cap) := by rw [hbel.cell (by simp)]; simp [go_sem]
    have hsz : w.heap.size < wr.heap.size := by have := hbel.size; simp at this; omega
    by_cases hlt : k < n
    rotate_left
    · have e : k = n := by omega
      subst e
      have hcv := conv_txt hb
      go_wp2
      go_ret
      exact ⟨rfl, unbox hbel (by omega)⟩
    obtain ⟨b, o, hao, c0, c1, c2⟩ := ((hr.alloc _).below hbel (by simp)) k hlt
    subst hao
    obtain ⟨⟨f0, f1⟩, ⟨t0, t1⟩, ⟨w0, w1'⟩⟩ := hs k hlt
    have hfl := dec_len f0 f1
    have htl := dec_len t0 t1
    have hwl := dec_len w0 w1'
    have hll := showT_len HP.out k (fun j hj => hs j (by omega))
    go_wp2
    have hgl : g < wr.heap.size := hb.lt (showT_pos k)
    have q1 : ¬ 9223372036854775807 < 1 + (dec (F k)).length := by omega
    have q2 : ¬ 9223372036854775807 < 1 + (dec (F k)).length + 1 := by omega
    have q3 : ¬ 9223372036854775807 < 1 + (dec (F k)).length + 1 + (dec (T k)).length := by omega
    have q4 : ¬ 9223372036854775807 < 1 + (dec (F k)).length + 1 + (dec (T k)).length + 1 := by omega
    have q5 : ¬ 9223372036854775807 < 1 + (dec (F k)).length + 1 + (dec (T k)).length + 1 + (dec (G k)).length := by omega
    have hA := (hbel.alloc (by omega) (.cells #[.int .i64 (F k), .int .i64 (T k), .int .i64 (G k)] 43)).drew
    have hbA := (hb.below ((Below.refl wr.heap.size wr).alloc (Nat.le_refl _) (.cells #[.int .i64 (F k), .int .i64 (T k), .int .i64 (G k)] 43)).drew (Nat.le_refl _))
    go_region_held3 (fun w' => w'.cell? ⟨wr.heap.size, 0, none⟩ = some (.int .i64 (F k)) ∧ w'.cell? ⟨wr.heap.size, 1, none⟩ = some (.int .i64 (T k)) ∧ w'.cell? ⟨wr.heap.size, 2, none⟩ = some (.int .i64 (G k)))
      (first | (go_split_ands; refine ⟨?_, ?_, ?_⟩ <;> exact keep_cell ‹_› (Nat.le_refl _) (by assumption)) | (go_split_ands; refine ⟨?_, ?_, ?_⟩ <;> exact hgr5.cell (by assumption) (by simp; omega)) | go_keep)
      (first | (go_at_call_of 29 (Value.int IntKind.i64 (F k)); refine (l1Int_dec (F k) f0 f1 _).mono ?_; rintro e w2 ⟨rfl, hb2⟩; replace hbA := hbA.below hb2 (Nat.le_refl _); replace hA := below_next hA (by simp) hb2) | (go_at_call_of 29 (Value.int IntKind.i64 (T k)); refine (l1Int_dec (T k) t0 t1 _).mono ?_; rintro e w2 ⟨rfl, hb2⟩; replace hbA := hbA.below hb2 (Nat.le_refl _); replace hA := below_next hA (by simp) hb2) | (go_at_call_of 29 (Value.int IntKind.i64 (G k)); refine (l1Int_dec (G k) w0 w1' _).mono ?_; rintro e w2 ⟨rfl, hb2⟩; replace hbA := hbA.below hb2 (Nat.le_refl _); replace hA := below_next hA (by simp) hb2) | (refine step_append_txt ?_ (.tmp 22) (.tmp 36) ?_ g cap' (showT p F T G k) (arcT (F k) (T k) (G k)) ?_ ?_ hbA ?_ (w.heap.size + 1) hg ?_ ?_; rfl; rfl; rfl; exact congrArg Value.string (arc_add _ _ _); (have := arcT_len ⟨f0, f1⟩ ⟨t0, t1⟩ ⟨w0, w1'⟩; omega); (have := hA.size; simp at this; omega); intro g' cap'' w5 hg' hbB hb5 hgr5))
    go_wp2
    go_roundw
    case rel => exact ⟨k + 1, by omega, by go_num, g', cap'', by simp [showT], hg', hbB, hA.trans hb5⟩
    case measure => simp [intOf]; omega

theorem small_of {p : Int} {n : Nat} {F T G : Nat → Int} (h : graphB p n F T G = true) : n ≤ 100 ∧ (0 ≤ p ∧ p ≤ 1000000) ∧ Small n F T G := by
  simp [graphB, inB] at h
  obtain ⟨⟨h1, h2⟩, h3, h4⟩ := h
  refine ⟨h3, ⟨by omega, by omega⟩, ?_⟩
  have key : ∀ m, arcsB p F T G m = true → ∀ k, k < m → arcB (F k) (T k) (G k) p = true := by
    intro m
    induction m with
    | zero => intro _ k hk; omega
    | succ m ih =>
      intro hm k hk
      simp [arcsB] at hm
      by_cases e : k = m
      · subst e; exact hm.2.1
      · exact ih hm.1 k (by omega)
  intro k hk
  have := key n h4 k hk
  simp [arcB, inB] at this
  omega

def showG (p : Int) (n : Nat) (F T G : Nat → Int) : List UInt8 := if graphB p n F T G then showT p F T G n else []

theorem specShow_any (p : Int) (ao : Option Addr) (n cap : Nat) (F T G : Nat → Int) (hn : n ≤ 1048576) (w : World) (hr : Row w ao n F T G) :
    Calls Tryd.prog 6 #[.agg #[.int .i64 p, .slice ao n cap]] w fun e w' => e = .returned (txt (showG p n F T G)) ∧ Below w.heap.size w w' := by
  rcases Bool.eq_false_or_eq_true (graphB p n F T G) with h | h
  · obtain ⟨h1, h2, h3⟩ := small_of h
    have HS : Hid (Small n F T G) := h3
    have e : showG p n F T G = showT p F T G n := by simp [showG, h]
    rw [e]
    go_enter Tryd.func6, Tryd.ntmps6
    go_wp2_with (first | (go_at_call 15; refine (specGraphOk_any p ao n cap F T G hn _ (hr.alloc _)).mono ?_; rintro e w1 ⟨rfl, hb1⟩; obtain ⟨hc, hf⟩ := bcell hb1) | (go_at_call 16; refine (l1Show_any p ao n cap F T G h1 h2 HS.out _ ((hr.alloc _).below hb1 (Nat.le_refl _))).mono ?_; rintro e w2 ⟨rfl, hb2⟩))
    go_ret
    exact ⟨rfl, unbox (below_next hb1 (Nat.le_refl _) hb2) (by simp)⟩
  · have e : showG p n F T G = [] := by simp [showG, h]
    rw [e]
    go_enter Tryd.func6, Tryd.ntmps6
    go_wp2_with (first | (go_at_call 15; refine (specGraphOk_any p ao n cap F T G hn _ (hr.alloc _)).mono ?_; rintro e w1 ⟨rfl, hb1⟩))
    go_ret
    exact ⟨rfl, unbox hb1 (by simp)⟩

end Go.Proofs.YtapfheagchihhaeDoor
