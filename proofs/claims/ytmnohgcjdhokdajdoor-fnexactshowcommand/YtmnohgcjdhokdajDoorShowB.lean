/-
  Numbers and arcs as text; bytes made of a text and back.
-/
import Derived.Test.YtmnohgcjdhokdajDoorBytes
set_option linter.unusedVariables false
set_option linter.unusedSimpArgs false
namespace Go.Proofs.YtmnohgcjdhokdajDoor
open Go.RowKit
attribute [local go_sem ↓] Go.wp_at_zero Go.wp_at_succ

def dec (n : Int) : List UInt8 := Lib.decDigits n.toNat
def arcT (f t g : Int) : List UInt8 := 32 :: (dec f ++ (32 :: (dec t ++ (32 :: dec g))))
def Small (n : Nat) (F T G : Nat → Int) : Prop := ∀ k, k < n → (0 ≤ F k ∧ F k ≤ 1000000) ∧ (0 ≤ T k ∧ T k ≤ 1000000) ∧ (0 ≤ G k ∧ G k ≤ 1000000)
theorem dec_len {n : Int} (h0 : 0 ≤ n) (h1 : n ≤ 1000000) : (dec n).length ≤ 1000001 := by
  have := decDigits_len n.toNat
  unfold dec; omega
theorem arcT_len {f t g : Int} (hf : 0 ≤ f ∧ f ≤ 1000000) (ht : 0 ≤ t ∧ t ≤ 1000000) (hg : 0 ≤ g ∧ g ≤ 1000000) : (arcT f t g).length ≤ 4000000 := by
  have a := dec_len hf.1 hf.2
  have b := dec_len ht.1 ht.2
  have c := dec_len hg.1 hg.2
  simp [arcT]; omega
theorem decDigits_pos (u : Nat) : 0 < (Lib.decDigits u).length := by
  by_cases hu : u < 10
  · rw [decDigits_one hu]; simp
  · rw [decDigits_ten (by omega)]; simp
theorem conv_bytes (s : ByteArray) (w : World) : (convert 9 44 (.string s)).run Tryd.prog w = .ok (.slice (some ⟨w.heap.size, 0, none⟩) s.size (grownCap w s.size 0 5))
      (w.drew.alloc (.cells (bytesRow s (grownCap w s.size 0 5)) 5 ((bytesRow s (grownCap w s.size 0 5)).size, (bytesRow s (grownCap w s.size 0 5)).size + 1))) :=
  run_bytes_of_string w 9 44 5 s Tryd.underlying9 Tryd.underlying44 Tryd.underlying5
theorem brow_new (l : List UInt8) (w : World) (cap : Nat) (hcap : l.length ≤ cap) :
    BRow (w.alloc (.cells (bytesRow ⟨l.toArray⟩ cap) 5 ((bytesRow ⟨l.toArray⟩ cap).size, (bytesRow ⟨l.toArray⟩ cap).size + 1))).drew w.heap.size cap l := by
  have hb : (w.alloc (.cells (bytesRow ⟨l.toArray⟩ cap) 5 ((bytesRow ⟨l.toArray⟩ cap).size, (bytesRow ⟨l.toArray⟩ cap).size + 1))).drew.heap[w.heap.size]? = some (.cells (bytesRow ⟨l.toArray⟩ cap) 5 ((bytesRow ⟨l.toArray⟩ cap).size, (bytesRow ⟨l.toArray⟩ cap).size + 1)) := heap_alloc_new w _
  have hsz : (bytesRow ⟨l.toArray⟩ cap).size = cap := by simp [bytesRow, ByteArray.size]; omega
  refine ⟨hcap, fun j hj => ⟨?_, ?_⟩, fun j c hc => ?_⟩
  · simp only [World.cell?, hb]
    rw [Array.getElem?_eq_getElem (by rw [hsz]; exact hj)]
    rfl
  · simp only [World.frozen?, hb]
    simp; omega
  · have hjl : j < l.length := (List.getElem?_eq_some_iff.1 hc).1
    simp only [World.cell?, hb]
    rw [bytesRow, Array.getElem?_append_left (by simpa using hjl)]
    simp [hc]
theorem conv_txt {w : World} {g cap : Nat} {l : List UInt8} (h : BRow w g cap l) : (convert 44 9 (.slice (some ⟨g, 0, none⟩) l.length cap)).run Tryd.prog w = .ok (txt l) w := by
  rw [run_convert_bytes_string _ 44 9 5 _ _ _ Tryd.underlying44 Tryd.underlying5 Tryd.underlying9]
  have hl := run_loadCells_list (P := Tryd.prog) w ⟨g, 0, none⟩ (bcells l) (fun j u hu => by
    rw [bcells_at] at hu
    simp at hu
    obtain ⟨c, hc, rfl⟩ := hu
    rw [Addr.add_mid]
    simpa using h.2.2 j c hc)
  have e : bcells l = (l.map fun b => (b.toNat : Int)).map (Value.int .u8) := by simp [bcells]
  rw [e] at hl
  simp only [List.length_map] at hl
  rw [run_bytesToString _ _ l.length cap _ hl]
  have key : ∀ (xs : List UInt8) (r : ByteArray), (xs.map fun b => (b.toNat : Int)).foldl (fun r n => r.push (UInt8.ofNat n.toNat)) r = ⟨(r.data.toList ++ xs).toArray⟩ := by
    intro xs
    induction xs with
    | nil => intro r; apply ByteArray.ext; simp
    | cons x xs ih => intro r; simp only [List.map_cons, List.foldl_cons]; rw [ih]; apply ByteArray.ext; simp
  rw [key]
  rfl
/-- One arc's numbers, as the document's text adds them up. -/
theorem arc_add (a b c : List UInt8) : ((((({ data := #[32] } : ByteArray) ++ { data := a.toArray }) ++ { data := #[32] }) ++ { data := b.toArray }) ++ { data := #[32] }) ++ { data := c.toArray } = (⟨(32 :: (a ++ (32 :: (b ++ (32 :: c))))).toArray⟩ : ByteArray) := by
  apply ByteArray.ext
  simp
theorem l1Int_dec (n : Int) (h0 : 0 ≤ n) (h1 : n ≤ 1000000) (w : World) :
    Calls Tryd.prog 19 #[.int .i64 n] w fun e w' => e = .returned (txt (dec n)) ∧ Below w.heap.size w w' := by
  obtain ⟨N, rfl⟩ := Int.eq_ofNat_of_zero_le h0
  refine (l1Int_any N (by omega) w).mono ?_
  rintro e w' ⟨rfl, hb⟩
  exact ⟨rfl, hb⟩

end Go.Proofs.YtmnohgcjdhokdajDoor
