/-
  The program's guide: what a way is unpacked by.
-/
import Derived.Test.YtokaechbmnbbiabGreatPack11
import Derived.Test.YtokaechbmnbbiabGreatPack10
set_option linter.unusedVariables false
set_option linter.unusedSimpArgs false
namespace Go.Proofs.YtokaechbmnbbiabGreat
open Go.RowKit Go.Maps
attribute [local go_sem ↓] Go.wp_at_zero Go.wp_at_succ

structure GOn (w : World) (ao : Option Addr) (n : Nat) (F T G : Nat → Int) (po : Option Addr) (k : Nat) (P : Nat → Int) (eo : Option Addr) (m : Nat) (L H : Nat → Int) (uo : Option Addr) (U : Nat → Int) (vo : Option Addr) (V : Nat → Int) (ma me : Nat) : Prop where
  rows : NRows w ao n F T G po k P eo m L H uo U vo V
  am : w.ownsMap Tryz.prog 113 (plainElem Tryz.prog 3) ma n (nums F T n)
  em : w.ownsMap Tryz.prog 62 (plainElem Tryz.prog 3) me m (enums L H m)
theorem GOn.next {w w' : World} {ao : Option Addr} {n : Nat} {F T G : Nat → Int} {po : Option Addr} {k : Nat} {P : Nat → Int} {eo : Option Addr} {m : Nat} {L H : Nat → Int} {uo : Option Addr} {U : Nat → Int} {vo : Option Addr} {V : Nat → Int} {ma me : Nat} (h : GOn w ao n F T G po k P eo m L H uo U vo V ma me) (hb : Below w.heap.size w w') : GOn w' ao n F T G po k P eo m L H uo U vo V ma me :=
  ⟨h.rows.below hb (Nat.le_refl _), ownsMap_below h.am hb, ownsMap_below h.em hb⟩

theorem weights_any (p : Int) (ao : Option Addr) (n cap : Nat) (po : Option Addr) (k pcap : Nat) (eo : Option Addr) (m ecap : Nat) (uo : Option Addr) (ucap : Nat) (vo : Option Addr) (vcap : Nat) (ma me : Nat) (up : Bool) (w : World) :
    Calls Tryz.prog 129 #[(.agg #[.int .i64 p, .slice ao n cap, .slice po k pcap, .slice eo m ecap, .slice uo m ucap, .slice vo m vcap, .map (some ma), .map (some me)]), .bool up] w fun e w' => e = .returned (if up = true then .slice uo m ucap else .slice vo m vcap) ∧ Below w.heap.size w w' := by
  cases up
  · go_enter Tryz.func129, Tryz.ntmps129
    go_wp2
    go_ret
    exact ⟨rfl, (Below.refl _ _).alloc (Nat.le_refl _) _⟩
  · go_enter Tryz.func129, Tryz.ntmps129
    go_wp2
    go_ret
    exact ⟨rfl, (Below.refl _ _).alloc (Nat.le_refl _) _⟩
set_option maxRecDepth 100000 in
theorem ranks_any (p : Int) (ao : Option Addr) (n cap : Nat) (po : Option Addr) (k pcap : Nat) (eo : Option Addr) (m ecap : Nat) (uo : Option Addr) (ucap : Nat) (vo : Option Addr) (vcap : Nat) (ma me : Nat) (L H : Nat → Int) (e : Nat) (up : Bool) (he : e < m) (hm : m ≤ 1048576) (w : World) (hr : ERow w eo m L H) :
    Calls Tryz.prog 116 #[(.agg #[.int .i64 p, .slice ao n cap, .slice po k pcap, .slice eo m ecap, .slice uo m ucap, .slice vo m vcap, .map (some ma), .map (some me)]), .agg #[.int .i64 (e : Int), .bool up]] w fun x w' => x = .returned (.tuple #[.int .i64 (if up = true then L e else H e), .int .i64 (if up = true then H e else L e)]) ∧ Below w.heap.size w w' := by
  have l1 : (0 : Int) ≤ (e : Int) := by omega
  have l2 : (e : Int) < (m : Int) := by omega
  cases up
  · have hb : Below w.heap.size w ((w.alloc (.cells #[.int .i64 p, .slice ao n cap, .slice po k pcap, .slice eo m ecap, .slice uo m ucap, .slice vo m vcap, .map (some ma), .map (some me)] 98)).alloc (.cells #[.int .i64 (e : Int), .bool false] 104)) := ((Below.refl _ _).alloc (Nat.le_refl _) _).alloc (by simp) _
    obtain ⟨b, o, rfl, c0, c1⟩ := (hr.below hb (Nat.le_refl _)) e he
    go_enter Tryz.func116, Tryz.ntmps116
    go_wp2
    go_quiet (fail)
    go_wp2
    exact bodyPost_ret (v := .tuple #[.int .i64 (H e), .int .i64 (L e)]) (by simp [results, Tryz.results116, go_sem]) rfl ⟨by simp, by first | exact below_drewN (hb.alloc hb.size _) _ | exact (hb.alloc hb.size _).drew | exact hb.alloc hb.size _⟩
  · have hb : Below w.heap.size w ((w.alloc (.cells #[.int .i64 p, .slice ao n cap, .slice po k pcap, .slice eo m ecap, .slice uo m ucap, .slice vo m vcap, .map (some ma), .map (some me)] 98)).alloc (.cells #[.int .i64 (e : Int), .bool true] 104)) := ((Below.refl _ _).alloc (Nat.le_refl _) _).alloc (by simp) _
    obtain ⟨b, o, rfl, c0, c1⟩ := (hr.below hb (Nat.le_refl _)) e he
    go_enter Tryz.func116, Tryz.ntmps116
    go_wp2
    go_quiet (fail)
    go_wp2
    exact bodyPost_ret (v := .tuple #[.int .i64 (L e), .int .i64 (H e)]) (by simp [results, Tryz.results116, go_sem]) rfl ⟨by simp, by first | exact below_drewN (hb.alloc hb.size _) _ | exact (hb.alloc hb.size _).drew | exact hb.alloc hb.size _⟩

end Go.Proofs.YtokaechbmnbbiabGreat
