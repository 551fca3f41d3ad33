/-
  Plain: the metric that Customize makes is right.
-/
import Derived.Test.YtokaechbmnbbiabGreatPack11
import Derived.Test.YtokaechbmnbbiabGreatPack10
import Derived.Test.YtokaechbmnbbiabGreatPack14
import Derived.Test.YtokaechbmnbbiabGreatRoomCP
set_option linter.unusedVariables false
set_option linter.unusedSimpArgs false
namespace Go.Proofs.YtokaechbmnbbiabGreat

theorem mok_can {p : Int} {n : Nat} {F T G : Nat → Int} {k : Nat} {P : Nat → Int} (h : ordB p n F T G k P = true) :
    MOk k (lstF p n F T P).length (Lf (lstF p n F T P)) (Hf (lstF p n F T P)) (lstF p n F T P).length (cusT p n F T G P).1 (lstF p n F T P).length (cusT p n F T G P).2 := by
  have C := cenv_of h
  have hok := allT_ok C.ed C.chd.2 (lstF p n F T P).length
  have hI := runT_in (m := (lstF p n F T P).length) (L := Lf (lstF p n F T P)) (H := Hf (lstF p n F T P)) (s := (w0U n F T G P (Lf (lstF p n F T P)) (Hf (lstF p n F T P)), w0D n F T G P (Lf (lstF p n F T P)) (Hf (lstF p n F T P)))) (fun j hj => w0_in C.gt) (fun j hj => w0_in C.gt) _ hok
  have hT := runT_ok (s := (w0U n F T G P (Lf (lstF p n F T P)) (Hf (lstF p n F T P)), w0D n F T G P (Lf (lstF p n F T P)) (Hf (lstF p n F T P)))) C.ei _ hok (allT_sorted C.ed _ (Nat.le_refl _))
  exact ⟨C.chd, rfl, rfl, hI.1, hI.2, hT⟩

end Go.Proofs.YtokaechbmnbbiabGreat
