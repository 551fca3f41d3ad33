/-
  Helpers: Sq0, Core, Base, Vh, Skips, Squ, Orders, GenL, Box.
-/
import Derived.WalkKit
import Derived.WalkSpells
import Derived.WalkLawsBesides
import Derived.Test.YtbabakgjkloabaaGreatDoorRows
import Derived.Deep.RegionHeld3
import Derived.Deep.OwnRows
import Derived.Deep.QuietTactic
import Derived.BigQuiet
import Derived.Deep.DrawnRows
import Derived.ProofKit
import Derived.OpenShut
import Derived.ChangeOld
import Derived.Deep.Slices
import Derived.Deep.Strs
import Derived.Lib.SmallJoins
import Derived.Deep.RegionHeld
import Derived.Deep.AppendLies
import Derived.Laws.OwnMore
import Derived.Laws.Tables
set_option linter.unusedVariables false
set_option linter.unusedSimpArgs false
set_option maxRecDepth 100000
set_option maxHeartbeats 16000000
namespace Go.Proofs.YtbabakgjkloabaaGreatDoor
section
open Go
theorem wi{x y:Int}(h:(x+9223372036854775808)%18446744073709551616-9223372036854775808=y:=by omega):IntKind.i64.wrap x=y:=(IntKind.wrap_i64 x).trans h
theorem oI{α : Type _}{a b:α}(h:some a=some b):a=b:=Option.some.inj h
theorem bq(b:Bool):b=true\/b=false:=Bool.eq_false_or_eq_true b
theorem nb{n m:Nat}(h:Nat.ble n m=true):n<=m:=Nat.le_of_ble_eq_true h
theorem sZ{α : Type _}{a b:α}{l:List α}:(a :: l).set 0 b=b :: l:=rfl
theorem ss{α : Type _}{a b:α}{l:List α}{n:Nat}:(a :: l).set (n+1) b=a :: l.set n b:=rfl
theorem sY{α : Type _}{l:List α}{i:Nat}{a:α}:l.toArray.setIfInBounds i a=(l.set i a).toArray:=List.setIfInBounds_toArray ..
end
section
open Go.RowKit
theorem dB{w:World}{b o:Nat}{v:Value}(h:w.cell? ⟨b,o,none⟩=some v):b<w.heap.size:=by
 by_cases hb:b<w.heap.size
 ·exact hb
 ·simp[World.cell?,Array.getElem?_eq_none (Nat.le_of_not_lt hb)]at h
def upto(f:Nat->Int)(m j:Nat):Int:=if j<m then f j else 0
def dD(x lo hi:Int):Bool:=decide (lo<=x)&&decide (x<=hi)
theorem dK{a b:Bool}(h:a=b):Ending.returned (.bool a)=.returned (.bool b):=by rw[h]
theorem aB{W W':World}{B b o:Nat}{v:Value}(hb:Below B W W')(hB:W.heap.size<=B)(h:W.cell? ⟨b,o,none⟩=some v):W'.cell? ⟨b,o,none⟩=some v:=by
 have:=dB h;rw[hb.cell (by simp;omega)];exact h
theorem aF{B:Nat}{a W W':World}(h:Below B a W)(hB:B<=a.heap.size)(hb:Below W.heap.size W W'):Below B a W':=h.trans (hb.mono (Nat.le_trans hB h.size))
end
section
open Go.ChangeShapes Go.WideShapes Go.ChangeAt Go.RowKit Go.Deep Go.Joins
theorem Tryz.own:ownKnob Tryz.prog.godebug=none:=by kernel_rfl
theorem Tryz.laidOut:laidOutB Tryz.prog=true:=by kernel_rfl
theorem aC(w:World)(b o:Nat)(v:Value):w.grownBy (w.setCell ⟨b,o,none⟩ v) (some b):=
 ⟨rfl,rfl,rfl,by simp[World.setCell],fun k _ hne=>Below.heap_setCell _ _ _ _ (fun e=>hne (by rw[e]))⟩
theorem S9{w w':World}{b B:Nat}(h:w.grownBy w' (some b))(hb:B<=b)(hB:B<=w.heap.size):Below B w w':=
 ⟨h.os,h.tape,h.output,h.size,fun k hk=>h.block k (by omega) (fun e=>by simp at e;omega)⟩
end
section
open Go.RowKit
def VHas(w:World)(b:Nat)(t:TypeId)(n:Nat)(f:Nat->Value):Prop:=∃ cur:Array Value,w.heap[b]?=some (.cells cur t (0,0))/\n<=cur.size/\∀ j,j<n->cur[j]?=some (f j)
theorem VHas.cell{w:World}{b n:Nat}{t:TypeId}{f:Nat->Value}(h:VHas w b t n f){j:Nat}(hj:j<n):w.cell? ⟨b,j,none⟩=some (f j):=by
 obtain⟨c,hb,_,hc⟩:=h;simp[World.cell?,hb,hc j hj]
theorem VHas.frozen{w:World}{b n:Nat}{t:TypeId}{f:Nat->Value}(h:VHas w b t n f)(j:Nat):w.frozen? ⟨b,j,none⟩=false:=by
 obtain⟨c,hb,_,_⟩:=h;simp[World.frozen?,hb]
theorem VHas.lt{w:World}{b n:Nat}{t:TypeId}{f:Nat->Value}(h:VHas w b t n f):b<w.heap.size:=by
 obtain⟨c,hb,_,_⟩:=h;exact (Array.getElem?_eq_some_iff.1 hb).1
theorem VHas.of_block{w w':World}{b n:Nat}{t:TypeId}{f:Nat->Value}(h:VHas w b t n f)(e:w'.heap[b]?=w.heap[b]?):VHas w' b t n f:=by
 obtain⟨c,hb,hn,hc⟩:=h;exact⟨c,e.trans hb,hn,hc⟩
theorem VHas.congr{w:World}{b n:Nat}{t:TypeId}{f g:Nat->Value}(h:VHas w b t n f)(e:∀ j,j<n->f j=g j):VHas w b t n g:=by
 obtain⟨c,hb,hn,hc⟩:=h;exact⟨c,hb,hn,fun j hj=>by rw[hc j hj,e j hj]⟩
theorem VHas.set{w:World}{b n:Nat}{t:TypeId}{f:Nat->Value}(h:VHas w b t n f)(i:Nat)(v:Value):VHas (w.setCell ⟨b,i,none⟩ v) b t n (fun j=>if j=i then v else f j):=by
 obtain⟨c,hb,hn,hc⟩:=h;refine⟨c.setIfInBounds i v,?_,by simpa using hn,fun j hj=>?_⟩
 ·simp[World.setCell,Array.getElem?_modify,hb]
 ·rw[Array.getElem?_setIfInBounds]
  by_cases e:j=i
  ·subst e
   simp;omega
  ·rw[if_neg (fun h=>e h.symm)]
   show c[j]?=some (if j=i then v else f j)
   rw[if_neg e];exact hc j hj
theorem VHas.other{w:World}{b n c i:Nat}{t:TypeId}{f:Nat->Value}(h:VHas w b t n f)(hne:b≠c)(v:Value):VHas (w.setCell ⟨c,i,none⟩ v) b t n f:=h.of_block (Below.heap_setCell _ _ _ _ (fun e=>hne (by simpa using e)))
theorem VHas.below{w w':World}{b n B:Nat}{t:TypeId}{f:Nat->Value}(h:VHas w b t n f)(hb:Below B w w')(hB:b<B):VHas w' b t n f:=h.of_block (hb.block b hB)
theorem VHas.next{w w':World}{b n:Nat}{t:TypeId}{f:Nat->Value}(h:VHas w b t n f)(hb:Below w.heap.size w w'):VHas w' b t n f:=h.below hb h.lt
theorem VHas.alloc{w:World}{b n:Nat}{t:TypeId}{f:Nat->Value}(h:VHas w b t n f)(o:Obj):VHas (w.alloc o) b t n f:=h.next ((Below.refl _ _).alloc (Nat.le_refl _) _)
theorem VHas.grown{w w':World}{b n:Nat}{t:TypeId}{f:Nat->Value}{row:Option Nat}(h:VHas w b t n f)(hg:w.grownBy w' row)(hne:some b≠row):VHas w' b t n f:=h.of_block (hg.block b h.lt hne)
end
section
open Go
section
variable {P:Program} {ops:Array Oper} {Q:Exit->Act->World->Prop} {md:Region.Mode} {S:World->Prop}
theorem FC(i:Nat)(d:Option Tmp){oi:Oper}{fuel:Nat}{listed:Array Bool}{a:Act}{w:World}(hi:ops[i]?=some oi)(hd:oi.dst=d)
  (hs:Region.noSelect ops=true) (hf:Region.free md ops listed i=true) (hr:(Region.ready md ops listed).contains i=true)
  (hQ:∀ c a w,Q (.panic c) (a.put oi.dst undef) w->Q (.panic c) a w) (hw:Region.wanted oi (yielded ops a.tmps)=false) (hS:S w)
  (h:wpAnyH P md ops Q S fuel (listed.setIfInBounds i true) (a.put d undef) w):wpAnyH P md ops Q S (fuel+1) listed a w:=
 wpAnyH_take hi hs hf hr hQ (.inr ⟨hw,rfl⟩) hS (by rw[hd];exact h)
theorem FD(i:Nat)(d:Option Tmp)(v:Value){oi:Oper}{fuel:Nat}{listed:Array Bool}{a:Act}{w:World}(hi:ops[i]?=some oi)(hd:oi.dst=d)
  (hs:Region.noSelect ops=true) (hf:Region.free md ops listed i=true) (hr:(Region.ready md ops listed).contains i=true)
  (hQ:∀ c a w,Q (.panic c) (a.put oi.dst v) w->Q (.panic c) a w) (hw:Region.wanted oi (yielded ops a.tmps)=true) (hS:S w) (hy:∀ w,S w->(execOp a.eval oi).run P w=.ok (.value v) w)
  (h:wpAnyH P md ops Q S fuel (listed.setIfInBounds i true) (a.put d v) w):wpAnyH P md ops Q S (fuel+1) listed a w:=
 wpAnyH_take hi hs hf hr hQ (.inl ⟨hw,hy⟩) hS (by rw[hd];exact h)
theorem cZ(i:Nat)(oi:Oper){fuel:Nat}{listed:Array Bool}{a:Act}{w:World}(hi:ops[i]?=some oi)(hr:Region.ready md ops listed=[i])
  (hw:Region.wanted oi (yielded ops a.tmps)=true) (h:Oper.wp P oi a w (fun a' w'=>S w'/\wpAnyH P md ops Q S fuel (listed.setIfInBounds i true) a' w') Q):wpAnyH P md ops Q S (fuel+1) listed a w:=
 wpAnyH_ready hr (by simp) (AllReadyH.cons hi (fun K hK=>by rw[if_pos hw];exact Oper.wp_mono (fun a' w' h'=>hK.out _ _ h'.1 (fun _=>h'.2)) h) AllReadyH.nil)
end
end
section
theorem nl{n:Nat}:n<=n:=Nat.le_refl n
theorem VHas.c2{w:World}{b n:Nat}{t:TypeId}{f:Nat->Value}(h:VHas w b t n f)(hn:2<=n:=by omega):w.cell? ⟨b,0,none⟩=some (f 0)/\w.cell? ⟨b,1,none⟩=some (f 1):=⟨h.cell (by omega),h.cell (by omega)⟩
theorem VHas.z2{w:World}{b n:Nat}{t:TypeId}{f:Nat->Value}(h:VHas w b t n f):w.frozen? ⟨b,0,none⟩=false/\w.frozen? ⟨b,1,none⟩=false:=⟨h.frozen 0,h.frozen 1⟩
theorem VHas.c3{w:World}{b n:Nat}{t:TypeId}{f:Nat->Value}(h:VHas w b t n f)(hn:3<=n:=by omega):w.cell? ⟨b,0,none⟩=some (f 0)/\w.cell? ⟨b,1,none⟩=some (f 1)/\w.cell? ⟨b,2,none⟩=some (f 2):=⟨h.cell (by omega),h.cell (by omega),h.cell (by omega)⟩
theorem VHas.z3{w:World}{b n:Nat}{t:TypeId}{f:Nat->Value}(h:VHas w b t n f):w.frozen? ⟨b,0,none⟩=false/\w.frozen? ⟨b,1,none⟩=false/\w.frozen? ⟨b,2,none⟩=false:=⟨h.frozen 0,h.frozen 1,h.frozen 2⟩
theorem VHas.c4{w:World}{b n:Nat}{t:TypeId}{f:Nat->Value}(h:VHas w b t n f)(hn:4<=n:=by omega):w.cell? ⟨b,0,none⟩=some (f 0)/\w.cell? ⟨b,1,none⟩=some (f 1)/\w.cell? ⟨b,2,none⟩=some (f 2)/\w.cell? ⟨b,3,none⟩=some (f 3):=⟨h.cell (by omega),h.cell (by omega),h.cell (by omega),h.cell (by omega)⟩
theorem VHas.z4{w:World}{b n:Nat}{t:TypeId}{f:Nat->Value}(h:VHas w b t n f):w.frozen? ⟨b,0,none⟩=false/\w.frozen? ⟨b,1,none⟩=false/\w.frozen? ⟨b,2,none⟩=false/\w.frozen? ⟨b,3,none⟩=false:=⟨h.frozen 0,h.frozen 1,h.frozen 2,h.frozen 3⟩
theorem VHas.c5{w:World}{b n:Nat}{t:TypeId}{f:Nat->Value}(h:VHas w b t n f)(hn:5<=n:=by omega):w.cell? ⟨b,0,none⟩=some (f 0)/\w.cell? ⟨b,1,none⟩=some (f 1)/\w.cell? ⟨b,2,none⟩=some (f 2)/\w.cell? ⟨b,3,none⟩=some (f 3)/\w.cell? ⟨b,4,none⟩=some (f 4):=⟨h.cell (by omega),h.cell (by omega),h.cell (by omega),h.cell (by omega),h.cell (by omega)⟩
theorem VHas.z5{w:World}{b n:Nat}{t:TypeId}{f:Nat->Value}(h:VHas w b t n f):w.frozen? ⟨b,0,none⟩=false/\w.frozen? ⟨b,1,none⟩=false/\w.frozen? ⟨b,2,none⟩=false/\w.frozen? ⟨b,3,none⟩=false/\w.frozen? ⟨b,4,none⟩=false:=⟨h.frozen 0,h.frozen 1,h.frozen 2,h.frozen 3,h.frozen 4⟩
theorem VHas.c6{w:World}{b n:Nat}{t:TypeId}{f:Nat->Value}(h:VHas w b t n f)(hn:6<=n:=by omega):w.cell? ⟨b,0,none⟩=some (f 0)/\w.cell? ⟨b,1,none⟩=some (f 1)/\w.cell? ⟨b,2,none⟩=some (f 2)/\w.cell? ⟨b,3,none⟩=some (f 3)/\w.cell? ⟨b,4,none⟩=some (f 4)/\w.cell? ⟨b,5,none⟩=some (f 5):=⟨h.cell (by omega),h.cell (by omega),h.cell (by omega),h.cell (by omega),h.cell (by omega),h.cell (by omega)⟩
theorem VHas.z6{w:World}{b n:Nat}{t:TypeId}{f:Nat->Value}(h:VHas w b t n f):w.frozen? ⟨b,0,none⟩=false/\w.frozen? ⟨b,1,none⟩=false/\w.frozen? ⟨b,2,none⟩=false/\w.frozen? ⟨b,3,none⟩=false/\w.frozen? ⟨b,4,none⟩=false/\w.frozen? ⟨b,5,none⟩=false:=⟨h.frozen 0,h.frozen 1,h.frozen 2,h.frozen 3,h.frozen 4,h.frozen 5⟩
theorem VHas.c7{w:World}{b n:Nat}{t:TypeId}{f:Nat->Value}(h:VHas w b t n f)(hn:7<=n:=by omega):w.cell? ⟨b,0,none⟩=some (f 0)/\w.cell? ⟨b,1,none⟩=some (f 1)/\w.cell? ⟨b,2,none⟩=some (f 2)/\w.cell? ⟨b,3,none⟩=some (f 3)/\w.cell? ⟨b,4,none⟩=some (f 4)/\w.cell? ⟨b,5,none⟩=some (f 5)/\w.cell? ⟨b,6,none⟩=some (f 6):=⟨h.cell (by omega),h.cell (by omega),h.cell (by omega),h.cell (by omega),h.cell (by omega),h.cell (by omega),h.cell (by omega)⟩
theorem VHas.z7{w:World}{b n:Nat}{t:TypeId}{f:Nat->Value}(h:VHas w b t n f):w.frozen? ⟨b,0,none⟩=false/\w.frozen? ⟨b,1,none⟩=false/\w.frozen? ⟨b,2,none⟩=false/\w.frozen? ⟨b,3,none⟩=false/\w.frozen? ⟨b,4,none⟩=false/\w.frozen? ⟨b,5,none⟩=false/\w.frozen? ⟨b,6,none⟩=false:=⟨h.frozen 0,h.frozen 1,h.frozen 2,h.frozen 3,h.frozen 4,h.frozen 5,h.frozen 6⟩
theorem VHas.c8{w:World}{b n:Nat}{t:TypeId}{f:Nat->Value}(h:VHas w b t n f)(hn:8<=n:=by omega):w.cell? ⟨b,0,none⟩=some (f 0)/\w.cell? ⟨b,1,none⟩=some (f 1)/\w.cell? ⟨b,2,none⟩=some (f 2)/\w.cell? ⟨b,3,none⟩=some (f 3)/\w.cell? ⟨b,4,none⟩=some (f 4)/\w.cell? ⟨b,5,none⟩=some (f 5)/\w.cell? ⟨b,6,none⟩=some (f 6)/\w.cell? ⟨b,7,none⟩=some (f 7):=⟨h.cell (by omega),h.cell (by omega),h.cell (by omega),h.cell (by omega),h.cell (by omega),h.cell (by omega),h.cell (by omega),h.cell (by omega)⟩
theorem VHas.z8{w:World}{b n:Nat}{t:TypeId}{f:Nat->Value}(h:VHas w b t n f):w.frozen? ⟨b,0,none⟩=false/\w.frozen? ⟨b,1,none⟩=false/\w.frozen? ⟨b,2,none⟩=false/\w.frozen? ⟨b,3,none⟩=false/\w.frozen? ⟨b,4,none⟩=false/\w.frozen? ⟨b,5,none⟩=false/\w.frozen? ⟨b,6,none⟩=false/\w.frozen? ⟨b,7,none⟩=false:=⟨h.frozen 0,h.frozen 1,h.frozen 2,h.frozen 3,h.frozen 4,h.frozen 5,h.frozen 6,h.frozen 7⟩
theorem VHas.c9{w:World}{b n:Nat}{t:TypeId}{f:Nat->Value}(h:VHas w b t n f)(hn:9<=n:=by omega):w.cell? ⟨b,0,none⟩=some (f 0)/\w.cell? ⟨b,1,none⟩=some (f 1)/\w.cell? ⟨b,2,none⟩=some (f 2)/\w.cell? ⟨b,3,none⟩=some (f 3)/\w.cell? ⟨b,4,none⟩=some (f 4)/\w.cell? ⟨b,5,none⟩=some (f 5)/\w.cell? ⟨b,6,none⟩=some (f 6)/\w.cell? ⟨b,7,none⟩=some (f 7)/\w.cell? ⟨b,8,none⟩=some (f 8):=⟨h.cell (by omega),h.cell (by omega),h.cell (by omega),h.cell (by omega),h.cell (by omega),h.cell (by omega),h.cell (by omega),h.cell (by omega),h.cell (by omega)⟩
theorem VHas.z9{w:World}{b n:Nat}{t:TypeId}{f:Nat->Value}(h:VHas w b t n f):w.frozen? ⟨b,0,none⟩=false/\w.frozen? ⟨b,1,none⟩=false/\w.frozen? ⟨b,2,none⟩=false/\w.frozen? ⟨b,3,none⟩=false/\w.frozen? ⟨b,4,none⟩=false/\w.frozen? ⟨b,5,none⟩=false/\w.frozen? ⟨b,6,none⟩=false/\w.frozen? ⟨b,7,none⟩=false/\w.frozen? ⟨b,8,none⟩=false:=⟨h.frozen 0,h.frozen 1,h.frozen 2,h.frozen 3,h.frozen 4,h.frozen 5,h.frozen 6,h.frozen 7,h.frozen 8⟩
theorem VHas.c10{w:World}{b n:Nat}{t:TypeId}{f:Nat->Value}(h:VHas w b t n f)(hn:10<=n:=by omega):w.cell? ⟨b,0,none⟩=some (f 0)/\w.cell? ⟨b,1,none⟩=some (f 1)/\w.cell? ⟨b,2,none⟩=some (f 2)/\w.cell? ⟨b,3,none⟩=some (f 3)/\w.cell? ⟨b,4,none⟩=some (f 4)/\w.cell? ⟨b,5,none⟩=some (f 5)/\w.cell? ⟨b,6,none⟩=some (f 6)/\w.cell? ⟨b,7,none⟩=some (f 7)/\w.cell? ⟨b,8,none⟩=some (f 8)/\w.cell? ⟨b,9,none⟩=some (f 9):=⟨h.cell (by omega),h.cell (by omega),h.cell (by omega),h.cell (by omega),h.cell (by omega),h.cell (by omega),h.cell (by omega),h.cell (by omega),h.cell (by omega),h.cell (by omega)⟩
theorem VHas.z10{w:World}{b n:Nat}{t:TypeId}{f:Nat->Value}(h:VHas w b t n f):w.frozen? ⟨b,0,none⟩=false/\w.frozen? ⟨b,1,none⟩=false/\w.frozen? ⟨b,2,none⟩=false/\w.frozen? ⟨b,3,none⟩=false/\w.frozen? ⟨b,4,none⟩=false/\w.frozen? ⟨b,5,none⟩=false/\w.frozen? ⟨b,6,none⟩=false/\w.frozen? ⟨b,7,none⟩=false/\w.frozen? ⟨b,8,none⟩=false/\w.frozen? ⟨b,9,none⟩=false:=⟨h.frozen 0,h.frozen 1,h.frozen 2,h.frozen 3,h.frozen 4,h.frozen 5,h.frozen 6,h.frozen 7,h.frozen 8,h.frozen 9⟩
section
variable {P:Program} {ops:Array Oper} {Q:Exit->Act->World->Prop} {md:Region.Mode} {S:World->Prop}
theorem tK(i:Nat)(d:Option Tmp)(v:Value){oi:Oper}{fuel:Nat}{listed:Array Bool}{a:Act}{w:World}(hi:ops[i]?=some oi)(hd:oi.dst=d)(hS:S w)(hy:∀ w,S w->(execOp a.eval oi).run P w=.ok (.value v) w)
  (h:wpAnyH P md ops Q S fuel (listed.setIfInBounds i true) (a.put d v) w) (hs:Region.noSelect ops=true:=by kernel_rfl) (hf:Region.free md ops listed i=true:=by kernel_rfl) (hr:(Region.ready md ops listed).contains i=true:=by kernel_rfl)
  (hQ:∀ c a w,Q (.panic c) (a.put oi.dst v) w->Q (.panic c) a w:=by exact fun _ _ _ h=>h) (hw:Region.wanted oi (yielded ops a.tmps)=true:=by rfl):wpAnyH P md ops Q S (fuel+1) listed a w:=FD i d v hi hd hs hf hr hQ hw hS hy h
theorem sK(i:Nat)(d:Option Tmp){oi:Oper}{fuel:Nat}{listed:Array Bool}{a:Act}{w:World}(hi:ops[i]?=some oi)(hd:oi.dst=d)(hS:S w)
  (h:wpAnyH P md ops Q S fuel (listed.setIfInBounds i true) (a.put d undef) w) (hs:Region.noSelect ops=true:=by kernel_rfl) (hf:Region.free md ops listed i=true:=by kernel_rfl) (hr:(Region.ready md ops listed).contains i=true:=by kernel_rfl)
  (hQ:∀ c a w,Q (.panic c) (a.put oi.dst undef) w->Q (.panic c) a w:=by exact fun _ _ _ h=>h) (hw:Region.wanted oi (yielded ops a.tmps)=false:=by rfl):wpAnyH P md ops Q S (fuel+1) listed a w:=FC i d hi hd hs hf hr hQ hw hS h
end
theorem pS:(∀ (a:Act) (v:Value),a.put none v=a)/\(∀ (a:Act) (d:Tmp) (v:Value),a.put (some d) v={ a with tmps:=a.tmps.setIfInBounds d v })/\(∀ (l:List Value) (i:Nat) (v:Value),l.toArray.setIfInBounds i v=(l.set i v).toArray)/\(∀ (a b:Value) (l:List Value),(a :: l).set 0 b=b :: l)/\(∀ (a b:Value) (l:List Value) (n:Nat),(a :: l).set (n+1) b=a :: l.set n b):=
 ⟨fun _ _=>rfl,fun _ _ _=>rfl,fun _ _ _=>sY ..,fun _ _ _=>rfl,fun _ _ _ _=>rfl⟩
end
section
open Go
section
variable {P:Program} {ops:Array Oper} {Q:Exit->Act->World->Prop}
def aY(o:Oper)(j:Nat):Prop:=∃ e∈o.after,Region.binds .any e=true/\e.on=j
def cE(ops:Array Oper):Bool:=
 (List.range ops.size).all fun i=>match ops[i]? with
  | none=>true
  | some o=>o.after.all (fun e=>!Region.binds .any e||decide (e.on<i))&&(List.range ops.size).all fun j=>match ops[j]? with
   | none=>true
   | some p=>(i==j||(match p.dst with|none=>true|some d=>o.dst != some d)) &&
     (match p.dst with|none=>true|some d=>!(o.looksAt ops).contains d||o.after.any (fun e=>Region.binds .any e&&e.on==j))
theorem bO(h:cE ops=true){i:Nat}{o:Oper}(hi:ops[i]?=some o):
  (∀ j,aY o j->j<i)/\(∀ j p d,ops[j]?=some p->p.dst=some d->i≠j->o.dst≠some d)/\(∀ j p d,ops[j]?=some p->p.dst=some d->d∈o.looksAt ops->aY o j):=by
 simp only[cE,List.all_eq_true,List.mem_range]at h;have h1:=h i (Array.getElem?_eq_some_iff.1 hi).1;simp only[hi,Bool.and_eq_true,List.all_eq_true,List.mem_range]at h1;refine⟨fun j hj=>?_,fun j p d hj hd hne=>?_,fun j p d hj hd hl=>?_⟩
 ·obtain⟨e,he,hb,rfl⟩:=hj
  have h2:=(Array.all_eq_true'.1 h1.1) e he;simp only[hb,Bool.not_true,Bool.false_or,decide_eq_true_eq]at h2;exact h2
 ·have h2:=h1.2 j (Array.getElem?_eq_some_iff.1 hj).1
  simp only[hj,hd,Bool.and_eq_true,Bool.or_eq_true,beq_iff_eq,hne,false_or]at h2;simpa using h2.1
 ·have h2:=h1.2 j (Array.getElem?_eq_some_iff.1 hj).1
  simp only[hj,hd,Bool.and_eq_true,Bool.or_eq_true]at h2;rcases h2.2 with h3|h3
  ·simp[hl]at h3
  ·obtain⟨e,he,hb⟩:=Array.any_eq_true'.1 h3
   simp only[Bool.and_eq_true,beq_iff_eq]at hb;exact⟨e,he,hb.1,hb.2⟩
structure Fr(ops:Array Oper)(a0:Act)(dn:Nat->Bool)(vs:Nat->Value)(a:Act):Prop where
 size:a.tmps.size=a0.tmps.size
 defers:a.defers=a0.defers
 done:∀ j o d,ops[j]?=some o->dn j=true->o.dst=some d->d<a0.tmps.size->a.tmps[d]?=some (vs j)
 rest:∀ d,(∀ j o,ops[j]?=some o->dn j=true->o.dst≠some d)->a.tmps[d]?=a0.tmps[d]?
theorem Fr.init(a0:Act)(vs:Nat->Value):Fr ops a0 (fun _=>false) vs a0:=⟨rfl,rfl,fun _ _ _ _ h=>(Bool.noConfusion h),fun _ _=>rfl⟩
theorem Fr.put(hok:cE ops=true){a0 a:Act}{dn:Nat->Bool}{vs:Nat->Value}(h:Fr ops a0 dn vs a){i:Nat}{o:Oper}(hi:ops[i]?=some o)(hn:dn i=false)(u:Value):
  Fr ops a0 (fun k=>if k=i then true else dn k) (fun k=>if k=i then u else vs k) (a.put o.dst u):=by
 have hs:=bO hok hi;cases hd:o.dst with
 | none=>
  refine⟨h.size,h.defers,fun j oj d hj hdn hdj hlt=>?_,fun d hno=>?_⟩
  ·by_cases hji:j=i
   ·subst hji;rw[hi]at hj;cases hj;rw[hd]at hdj;cases hdj
   ·simp only[hji,if_false]at hdn ⊢
    exact h.done j oj d hj hdn hdj hlt
  ·refine h.rest d fun j oj hj hdn hdj=>?_
   by_cases hji:j=i
   ·subst hji;rw[hn]at hdn;cases hdn
   ·exact hno j oj hj (by simp[hji,hdn]) hdj
 | some e=>
  refine⟨by simp[Act.put,h.size],h.defers,fun j oj d hj hdn hdj hlt=>?_,fun d hno=>?_⟩
  ·by_cases hji:j=i
   ·subst hji
    rw[hi]at hj;cases hj;rw[hd]at hdj;cases hdj;simp[Act.put,h.size,hlt]
   ·simp only[hji,if_false]at hdn ⊢
    have hne:e≠d:=fun q=>by
     subst q;exact hs.2.1 j oj e hj hdj (fun q=>hji q.symm) hd
    simp only[Act.put];rw[Array.getElem?_setIfInBounds_ne hne];exact h.done j oj d hj hdn hdj hlt
  ·have hne:e≠d:=fun q=>by
    subst q;exact hno i o hi (by simp) hd
   simp only[Act.put];rw[Array.getElem?_setIfInBounds_ne hne];refine h.rest d fun j oj hj hdn hdj=>?_
   exact hno j oj hj (by simp[hdn]) hdj
theorem Fr.uniq{a0 a b:Act}{dn:Nat->Bool}{vs:Nat->Value}(h:Fr ops a0 dn vs a)(k:Fr ops a0 dn vs b):a=b:=by
 have e1:a.tmps=b.tmps:=by
  apply Array.ext_getElem?;intro d
  by_cases hq:∃ j o,ops[j]?=some o/\dn j=true/\o.dst=some d
  ·obtain⟨j,o,hj,hdn,hd⟩:=hq
   by_cases hlt:d<a0.tmps.size
   ·rw[h.done j o d hj hdn hd hlt,k.done j o d hj hdn hd hlt]
   ·rw[Array.getElem?_eq_none (by rw[h.size];omega),Array.getElem?_eq_none (by rw[k.size];omega)]
  ·have hno:∀ j o,ops[j]?=some o->dn j=true->o.dst≠some d:=fun j o hj hdn hd=>hq ⟨j,o,hj,hdn,hd⟩
   rw[h.rest d hno,k.rest d hno]
 have e2:=h.defers.trans k.defers.symm;cases a;cases b;simp only at e1 e2;subst e1;subst e2;rfl
theorem Fr.congr{a0 a:Act}{dn dn':Nat->Bool}{vs vs':Nat->Value}(h:Fr ops a0 dn vs a)(e:∀ j,j<ops.size->dn j=dn' j)(f:∀ j,j<ops.size->dn j=true->vs j=vs' j):Fr ops a0 dn' vs' a:=
 ⟨h.size,h.defers,fun j o d hj hdn hd hlt=>by
  have hl:=(Array.getElem?_eq_some_iff.1 hj).1;rw[<-e j hl]at hdn;rw[<-f j hl hdn]
  exact h.done j o d hj hdn hd hlt,fun d hno=>h.rest d fun j o hj hdn=>hno j o hj (by rw[<-e j (Array.getElem?_eq_some_iff.1 hj).1];exact hdn)⟩
def bF(vs:Nat->Value):Nat->List Oper->Act->Act
 | _,[],a=>a
 | i,o :: os,a=>bF vs (i+1) os (a.put o.dst (vs i))
theorem lL(hok:cE ops=true)(vs:Nat->Value)(a0:Act):∀ (l:List Oper) (i:Nat) (a:Act),(∀ k,k<l.length->l[k]?=ops[i+k]?)->Fr ops a0 (fun k=>decide (k<i)) vs a->Fr ops a0 (fun k=>decide (k<i+l.length)) vs (bF vs i l a)
 | [],i,a,_,h=>by simpa[bF] using h
 | o :: l,i,a,hl,h=>by
  have h0:ops[i]?=some o:=by have:=hl 0 (by simp);simpa using this.symm
  have h1:=h.put hok h0 (by simp) (vs i)
  have h2:Fr ops a0 (fun k=>decide (k<i+1)) vs (a.put o.dst (vs i)):=h1.congr (fun j _=>by
   by_cases hj:j=i
   ·simp[hj]
   ·simp only[hj,if_false];rw[decide_eq_decide];omega) (fun j _ _=>by by_cases hj:j=i<;>simp[hj])
  have h3:=lL hok vs a0 l (i+1) (a.put o.dst (vs i)) (fun k hk=>by
   have:=hl (k+1) (by simp;omega);simp only[List.getElem?_cons_succ]at this
   rw[this];congr 1;omega) h2
  have e:i+1+l.length=i+(o :: l).length:=by simp;omega
  rw[e]at h3;exact h3
def uS(ops:Array Oper)(listed:Array Bool):Nat:=((List.range ops.size).filter fun i=>!listed.getD i true).length
theorem kT{l:List Nat}(hnd:l.Nodup){f g:Nat->Bool}{i:Nat}(hi:i∈l)(hf:f i=true)(hg:g i=false)(e:∀ k,k≠i->g k=f k):(l.filter g).length+1=(l.filter f).length:=by
 induction l with
 | nil=>cases hi
 | cons x l ih=>
  rw[List.nodup_cons]at hnd;rcases List.mem_cons.1 hi with rfl|hi
  ·have:l.filter g=l.filter f:=List.filter_congr fun k hk=>e k fun q=>hnd.1 (q ▸ hk)
   simp[List.filter_cons,hf,hg,this]
  ·have hx:x≠i:=fun q=>hnd.1 (q ▸ hi)
   have:=ih hnd.2 hi;simp only[List.filter_cons,e x hx]
   split
   ·simp only[List.length_cons];omega
   ·exact this
theorem lM(hok:cE ops=true)(listed:Array Bool)(hr:Region.ready .any ops listed=[])(hsz:listed.size=ops.size):∀ j,j<ops.size->listed.getD j true=true:=by
 intro j
 induction j using Nat.strongRecOn with
 | ind j ih=>
  intro hj;rcases bq (listed.getD j true) with q|q
  ·exact q
  ·exfalso
   have hoj:ops[j]?=some ops[j]:=by simp[hj]
   have hm:j∈Region.ready .any ops listed:=mem_ready.2 ⟨q,ops[j],hoj,fun e he hb=>by
    have hlt:=(bO hok hoj).1 e.on ⟨e,he,hb,rfl⟩;have h2:=ih e.on hlt (by omega);have:e.on<listed.size:=by omega
    simp[Array.getD,this]at h2 ⊢
    exact h2⟩
   rw[hr]at hm;cases hm
def OpOk(P:Program)(ops:Array Oper)(a0:Act)(w0:World)(R:World->World->Prop)(Pr:Nat->Value->World->Prop)(i:Nat)(o:Oper):Prop:=
 ∀ (a:Act) (w:World) (v:Nat->Value) (Q:Exit->Act->World->Prop),R w0 w->(∀ (j:Nat) (p:Oper) (d:Tmp),ops[j]?=some p->p.dst=some d->d<a0.tmps.size->aY o j->a.eval (.tmp d)=v j)->(∀ j,j<ops.size->aY o j->Pr j (v j) w) →
  (∀ d,(∀ (j:Nat) (p:Oper),ops[j]?=some p->p.dst≠some d)->a.eval (.tmp d)=a0.eval (.tmp d)) →
  if Region.wanted o (yielded ops a.tmps)=true then o.wp P a w (fun a' w'=>∃ u,a'=a.put o.dst u/\R w w'/\Pr i u w') Q else Pr i undef w
theorem C8(hok:cE ops=true){a0:Act}{w0:World}(R:World->World->Prop)(hR0:∀ w,R w w)(hRt:∀ u v w,R u v->R v w->R u w)(Pr:Nat->Value->World->Prop)(hPr:∀ i v w w',Pr i v w->R w w'->Pr i v w')
  (hstep:∀ i o,ops[i]?=some o->OpOk P ops a0 w0 R Pr i o)
  (hend:∀ v w',R w0 w'->(∀ i,i<ops.size->Pr i (v i) w')->Q .normal (bF v 0 ops.toList a0) w'):
  ∀ (fuel:Nat) (listed:Array Bool) (a:Act) (w:World) (v:Nat->Value),listed.size=ops.size->uS ops listed<=fuel->R w0 w->Fr ops a0 (fun j=>listed.getD j false) v a->(∀ j,j<ops.size->listed.getD j false=true->Pr j (v j) w)->wpAny P .any ops Q fuel listed a w:=by
 have fin:∀ (listed:Array Bool) (a:Act) (w:World) (v:Nat->Value),listed.size=ops.size->R w0 w->Fr ops a0 (fun j=>listed.getD j false) v a->(∀ j,j<ops.size->listed.getD j false=true->Pr j (v j) w)->(∀ j,j<ops.size->listed.getD j true=true)->Q .normal a w:=by
  intro listed a w v hsz hR hF hP hall
  have hall':∀ j,j<ops.size->listed.getD j false=true:=fun j hj=>by
   have:=hall j hj;have hl:j<listed.size:=by omega
   simp[hl]at this ⊢;exact this
  have h1:Fr ops a0 (fun k=>decide (k<0+ops.toList.length)) v a:=hF.congr (fun j hj=>by simp[hall' j hj,hj]) (fun _ _ _=>rfl);have h2:=lL hok v a0 ops.toList 0 a0 (fun k _=>by simp) ((Fr.init a0 v).congr (fun j _=>by simp) (fun _ _ _=>rfl));rw[h1.uniq h2];exact hend v w hR fun i hi=>hP i hi (hall' i hi)
 intro fuel
 induction fuel with
 | zero=>
  intro listed a w v hsz hu hR hF hP
  have hall:∀ j,j<ops.size->listed.getD j true=true:=fun j hj=>by
   rcases bq (listed.getD j true) with q|q
   ·exact q
   ·exfalso
    have h0:(List.range ops.size).filter (fun i=>!listed.getD i true)=[]:=List.eq_nil_of_length_eq_zero (by unfold uS at hu;omega);have:j∈(List.range ops.size).filter (fun i=>!listed.getD i true):=List.mem_filter.2 ⟨List.mem_range.2 hj,by rw[q];rfl⟩;rw[h0]at this;cases this
  refine⟨?_,fin listed a w v hsz hR hF hP hall⟩;rw[List.eq_nil_iff_forall_not_mem];intro j hj;obtain⟨h0,o,ho,_⟩:=mem_ready.1 hj;rw[hall j (Array.getElem?_eq_some_iff.1 ho).1]at h0;cases h0
 | succ fuel ih=>
  intro listed a w v hsz hu hR hF hP;refine⟨fun hr=>fin listed a w v hsz hR hF hP (lM hok listed hr hsz),fun i hi=>?_⟩;obtain⟨h0,o,ho,hall⟩:=mem_ready.1 hi;have hil:i<ops.size:=(Array.getElem?_eq_some_iff.1 ho).1;have hsp:=bO hok ho
  have h0f:listed.getD i false=false:=by
   have hl:i<listed.size:=by omega
   simp[hl]at h0 ⊢;exact h0
  have hw:∀ j,aY o j->listed.getD j false=true:=fun j ⟨e,he,hb,ej⟩=>by
   subst ej;exact hall e he hb
  have hlt:∀ j,aY o j->j<ops.size:=fun j hj=>by have:=hsp.1 j hj;omega
  have hS:=hstep i o ho a w v Q hR (fun j p d hj hd hlt hwj=>by
   have:=hF.done j p d hj (hw j hwj) hd hlt
   simp[Act.eval,Array.getD_eq_getD_getElem?,this]) (fun j hj hwj=>hP j hj (hw j hwj)) (fun d hno=>by
   have:=hF.rest d fun j p hj _=>hno j p hj
   simp[Act.eval,Array.getD_eq_getD_getElem?,this])
  have next:∀ u w',R w w'->Pr i u w'->wpAny P .any ops Q fuel (listed.setIfInBounds i true) (a.put o.dst u) w':=fun u w' hR' hu'=>by
   refine ih _ _ _ (fun k=>if k=i then u else v k) (by simp[hsz]) ?_ (hRt _ _ _ hR hR') ?_ ?_
   ·have:=kT (l:=List.range ops.size) List.nodup_range (f:=fun k=>!listed.getD k true) (g:=fun k=>!(listed.setIfInBounds i true).getD k true) (i:=i) (List.mem_range.2 hil) (by simp only[h0];rfl) (by
     have hl:i<listed.size:=by omega
     simp[hl]) (fun k hk=>by
     show (!(listed.setIfInBounds i true).getD k true) = !listed.getD k true
     rw[getD_set_ne true (fun q=>hk q.symm)])
    unfold uS at hu ⊢;omega
   ·refine (hF.put hok ho h0f u).congr (fun j hj=>?_) (fun _ _ _=>rfl)
    by_cases hji:j=i
    ·subst hji
     have hl:j<listed.size:=by omega
     simp[hl]
    ·simp only[hji,if_false]
     rw[getD_set_ne false (fun q=>hji q.symm)]
   ·intro j hj hdn
    by_cases hji:j=i
    ·subst hji;simp only[if_true];exact hu'
    ·simp only[hji,if_false]
     rw[getD_set_ne false (fun q=>hji q.symm)]at hdn;exact hPr _ _ _ _ (hP j hj hdn) hR'
  unfold wpOp;simp only[ho]
  split
  ·rename_i hwt
   rw[if_pos hwt]at hS;exact .inl (Oper.wp_mono (fun a' w' ⟨u,e,h1,h2⟩=>by rw[e];exact next u w' h1 h2) hS)
  ·rename_i hwt
   rw[if_neg hwt]at hS;exact next undef w (hR0 w) hS
theorem yV{id:Nat}{a0:Act}{w0:World}(hm:P.follows .mixedOrders=true)(hok:cE ops=true)(R:World->World->Prop)(hR0:∀ w,R w w)(hRt:∀ u v w,R u v->R v w->R u w)(Pr:Nat->Value->World->Prop)(hPr:∀ i v w w',Pr i v w->R w w'->Pr i v w')
  (hstep:∀ i o,ops[i]?=some o->OpOk P ops a0 w0.drew R Pr i o)
  (hend:∀ v w',R w0.drew w'->(∀ i,i<ops.size->Pr i (v i) w')->Q .normal (bF v 0 ops.toList a0) w'):(Code.region id ops true).wp P Q a0 w0:=by
 refine wp_region_any hm ?_;refine C8 hok R hR0 hRt Pr hPr hstep hend ops.size _ a0 _ (fun _=>undef) (by simp) ?_ (hR0 _) ?_ ?_
 ·unfold uS
  exact Nat.le_trans (List.length_filter_le _ _) (by simp)
 ·exact (Fr.init a0 _).congr (fun j hj=>by simp[hj]) (fun _ _ _=>rfl)
 ·intro j hj h
  simp[hj]at h
def dV(ops:Array Oper):Bool:=(List.range (ops.size-1)).all fun j=>(List.range ops.size).any fun i=>match ops[i]? with
 | none=>false
 | some o=>decide (j<i)&&o.after.any (fun e=>Region.binds .any e&&e.on==j)
theorem fD(h:dV ops=true){j:Nat}(hj:j+1<ops.size):∃ i o,ops[i]?=some o/\j<i/\aY o j:=by
 simp only[dV,List.all_eq_true,List.mem_range,List.any_eq_true]at h;obtain⟨i,hi,h2⟩:=h j (by omega);cases ho:ops[i]? with
 | none=>rw[ho]at h2;cases h2
 | some o=>
  rw[ho]at h2;simp only[Bool.and_eq_true,decide_eq_true_eq]at h2;obtain⟨e,he,hb⟩:=Array.any_eq_true'.1 h2.2;simp only[Bool.and_eq_true,beq_iff_eq]at hb;exact⟨i,o,ho,h2.1,e,he,hb.1,hb.2⟩
theorem C9(hok:cE ops=true)(haw:dV ops=true){a0:Act}{w0:World}(R:World->World->Prop)(hR0:∀ w,R w w)(hRt:∀ u v w,R u v->R v w->R u w)(Pr:Nat->Value->World->Prop)(hPr:∀ i v w w',Pr i v w->R w w'->Pr i v w')
  (hstep:∀ i o,i+1<ops.size->ops[i]?=some o->OpOk P ops a0 w0 R Pr i o)
  (o9:Oper) (ho9:ops[ops.size-1]?=some o9) (hlast:∀ v w',R w0 w'->(∀ i,i+1<ops.size->Pr i (v i) w')->if Region.wanted o9 (yielded ops (bF v 0 (ops.toList.take (ops.size-1)) a0).tmps)=true then o9.wp P (bF v 0 (ops.toList.take (ops.size-1)) a0) w' (fun a' w''=>Q .normal a' w'') Q else Q .normal ((bF v 0 (ops.toList.take (ops.size-1)) a0).put o9.dst undef) w'):
  ∀ (fuel:Nat) (listed:Array Bool) (a:Act) (w:World) (v:Nat->Value),listed.size=ops.size->uS ops listed<=fuel->R w0 w->Fr ops a0 (fun j=>listed.getD j false) v a->(∀ j,j<ops.size->listed.getD j false=true->Pr j (v j) w)->listed.getD (ops.size-1) false=false->(∀ i o j,ops[i]?=some o->listed.getD i false=true->aY o j->listed.getD j false=true)->wpAny P .any ops Q fuel listed a w:=by
 have hsz9:ops.size-1<ops.size:=(Array.getElem?_eq_some_iff.1 ho9).1
 have full:∀ (listed:Array Bool),listed.size=ops.size->(∀ j,j<ops.size->listed.getD j false=true)->∀ fuel a w,Q .normal a w->wpAny P .any ops Q fuel listed a w:=by
  intro listed hsz hall fuel a w hq
  have hr:Region.ready .any ops listed=[]:=by
   rw[List.eq_nil_iff_forall_not_mem];intro j hj;obtain⟨h0,o,ho,_⟩:=mem_ready.1 hj;have hl:j<ops.size:=(Array.getElem?_eq_some_iff.1 ho).1;have h1:=hall j hl;have hl2:j<listed.size:=by omega
   simp[Array.getD,hl2]at h0 h1;rw[h0]at h1;cases h1
  cases fuel with
  | zero=>exact⟨hr,hq⟩
  | succ f=>exact⟨fun _=>hq,fun i hi=>by rw[hr]at hi;cases hi⟩
 intro fuel
 induction fuel with
 | zero=>
  intro listed a w v hsz hu hR hF hP hL hDC;exfalso;have h0:(List.range ops.size).filter (fun i=>!listed.getD i true)=[]:=List.eq_nil_of_length_eq_zero (by unfold uS at hu;omega)
  have:ops.size-1∈(List.range ops.size).filter (fun i=>!listed.getD i true):=List.mem_filter.2 ⟨List.mem_range.2 hsz9,by
   have hl:ops.size-1<listed.size:=by omega
   simp[Array.getD,hl]at hL ⊢
   exact hL⟩
  rw[h0]at this;cases this
 | succ fuel ih=>
  intro listed a w v hsz hu hR hF hP hL hDC
  refine⟨fun hr=>by
   exfalso;have:=lM hok listed hr hsz _ hsz9;have hl:ops.size-1<listed.size:=by omega
   simp[Array.getD,hl]at hL this;rw[hL]at this
   exact Bool.noConfusion this,fun i hi=>?_⟩
  obtain⟨h0,o,ho,hall⟩:=mem_ready.1 hi;have hil:i<ops.size:=(Array.getElem?_eq_some_iff.1 ho).1;have hsp:=bO hok ho
  have h0f:listed.getD i false=false:=by
   have hl:i<listed.size:=by omega
   simp[hl]at h0 ⊢;exact h0
  have hw:∀ j,aY o j->listed.getD j false=true:=fun j ⟨e,he,hb,ej⟩=>by
   subst ej;exact hall e he hb
  by_cases hi9:i=ops.size-1
  ·have ho':o=o9:=by rw[hi9,ho9]at ho;exact (oI ho).symm
   have hall9:∀ k j,j+1+k=ops.size->listed.getD j false=true\/j=ops.size-1:=by
    intro k
    induction k using Nat.strongRecOn with
    | ind k ihk=>
     intro j hjk
     by_cases hj9:j=ops.size-1
     ·exact .inr hj9
     ·left
      obtain⟨i2,o2,ho2,hlt2,hw2⟩:=fD haw (j:=j) (by omega);have hi2:i2<ops.size:=(Array.getElem?_eq_some_iff.1 ho2).1;rcases ihk (ops.size-(i2+1)) (by omega) i2 (by omega) with h1|h1
      ·exact hDC i2 o2 j ho2 h1 hw2
      ·subst h1
       rw[hi9,ho2]at ho;cases ho;exact hw j hw2
   have hall8:∀ j,j+1<ops.size->listed.getD j false=true:=fun j hj=>by
    rcases hall9 (ops.size-(j+1)) j (by omega) with h1|h1
    ·exact h1
    ·omega
   have h1:Fr ops a0 (fun k=>decide (k<0+(ops.toList.take (ops.size-1)).length)) v a:=hF.congr (fun j hj=>by
    by_cases hj9:j=ops.size-1
    ·rw[hj9,hL];simp
    ·rw[hall8 j (by omega)];simp;omega) (fun _ _ _=>rfl)
   have h2:=lL hok v a0 (ops.toList.take (ops.size-1)) 0 a0 (fun k hk=>by
    simp at hk;rw[List.getElem?_take,if_pos (by omega)]
    simp) ((Fr.init a0 v).congr (fun j _=>by simp) (fun _ _ _=>rfl))
   have ea:=h1.uniq h2;have hq:=hlast v w hR fun j hj=>hP j (by omega) (hall8 j hj)
   rw[<-ea,<-ho']at hq
   have hfull:∀ j,j<ops.size->(listed.setIfInBounds i true).getD j false=true:=fun j hj=>by
    by_cases hji:j=i
    ·subst hji
     have hl:j<listed.size:=by omega
     simp[Array.getD,hl]
    ·rw[getD_set_ne false (fun q=>hji q.symm)]
     exact hall8 j (by omega)
   unfold wpOp;simp only[ho]
   split
   ·rename_i hwt
    rw[if_pos hwt]at hq;exact .inl (Oper.wp_mono (fun a' w' h=>full _ (by simp[hsz]) hfull _ _ _ h) hq)
   ·rename_i hwt
    rw[if_neg hwt]at hq;exact full _ (by simp[hsz]) hfull _ _ _ hq
  have hlt:∀ j,aY o j->j<ops.size:=fun j hj=>by have:=hsp.1 j hj;omega
  have hS:=hstep i o (by omega) ho a w v Q hR (fun j p d hj hd hlt hwj=>by
   have:=hF.done j p d hj (hw j hwj) hd hlt
   simp[Act.eval,Array.getD_eq_getD_getElem?,this]) (fun j hj hwj=>hP j hj (hw j hwj)) (fun d hno=>by
   have:=hF.rest d fun j p hj _=>hno j p hj
   simp[Act.eval,Array.getD_eq_getD_getElem?,this])
  have next:∀ u w',R w w'->Pr i u w'->wpAny P .any ops Q fuel (listed.setIfInBounds i true) (a.put o.dst u) w':=fun u w' hR' hu'=>by
   refine ih _ _ _ (fun k=>if k=i then u else v k) (by simp[hsz]) ?_ (hRt _ _ _ hR hR') ?_ ?_ ?_ ?_
   ·have:=kT (l:=List.range ops.size) List.nodup_range (f:=fun k=>!listed.getD k true) (g:=fun k=>!(listed.setIfInBounds i true).getD k true) (i:=i) (List.mem_range.2 hil) (by simp only[h0];rfl) (by
     have hl:i<listed.size:=by omega
     simp[hl]) (fun k hk=>by
     show (!(listed.setIfInBounds i true).getD k true) = !listed.getD k true
     rw[getD_set_ne true (fun q=>hk q.symm)])
    unfold uS at hu ⊢;omega
   ·refine (hF.put hok ho h0f u).congr (fun j hj=>?_) (fun _ _ _=>rfl)
    by_cases hji:j=i
    ·subst hji
     have hl:j<listed.size:=by omega
     simp[hl]
    ·simp only[hji,if_false]
     rw[getD_set_ne false (fun q=>hji q.symm)]
   ·intro j hj hdn
    by_cases hji:j=i
    ·subst hji;simp only[if_true];exact hu'
    ·simp only[hji,if_false]
     rw[getD_set_ne false (fun q=>hji q.symm)]at hdn;exact hPr _ _ _ _ (hP j hj hdn) hR'
   ·rw[getD_set_ne false hi9]
    exact hL
   ·intro i2 o2 j ho2 h2 hw2
    by_cases hii:i2=i
    ·subst hii
     rw[ho]at ho2;cases ho2;have h3:=hw j hw2;have hne:i2≠j:=fun q=>by have:=hsp.1 j hw2;omega
     rw[getD_set_ne false hne];exact h3
    ·rw[getD_set_ne false (fun q=>hii q.symm)]at h2
     have h3:=hDC i2 o2 j ho2 h2 hw2
     by_cases hji:j=i
     ·subst hji;rw[h0f]at h3;cases h3
     ·rw[getD_set_ne false (fun q=>hji q.symm)]
      exact h3
  unfold wpOp;simp only[ho]
  split
  ·rename_i hwt
   rw[if_pos hwt]at hS;exact .inl (Oper.wp_mono (fun a' w' ⟨u,e,h1,h2⟩=>by rw[e];exact next u w' h1 h2) hS)
  ·rename_i hwt
   rw[if_neg hwt]at hS;exact next undef w (hR0 w) hS
theorem yW{id:Nat}{a0:Act}{w0:World}(hm:P.follows .mixedOrders=true)(hok:cE ops=true)(haw:dV ops=true)(R:World->World->Prop)(hR0:∀ w,R w w)(hRt:∀ u v w,R u v->R v w->R u w)(Pr:Nat->Value->World->Prop)(hPr:∀ i v w w',Pr i v w->R w w'->Pr i v w')
  (hstep:∀ i o,i+1<ops.size->ops[i]?=some o->OpOk P ops a0 w0.drew R Pr i o) (o9:Oper) (ho9:ops[ops.size-1]?=some o9)
  (hlast:∀ v w',R w0.drew w'->(∀ i,i+1<ops.size->Pr i (v i) w')->if Region.wanted o9 (yielded ops (bF v 0 (ops.toList.take (ops.size-1)) a0).tmps)=true then o9.wp P (bF v 0 (ops.toList.take (ops.size-1)) a0) w' (fun a' w''=>Q .normal a' w'') Q else Q .normal ((bF v 0 (ops.toList.take (ops.size-1)) a0).put o9.dst undef) w'):(Code.region id ops true).wp P Q a0 w0:=by
 refine wp_region_any hm ?_;refine C9 hok haw R hR0 hRt Pr hPr hstep o9 ho9 hlast ops.size _ a0 _ (fun _=>undef) (by simp) ?_ (hR0 _) ?_ ?_ ?_ ?_
 ·unfold uS
  exact Nat.le_trans (List.length_filter_le _ _) (by simp)
 ·exact (Fr.init a0 _).congr (fun j hj=>by simp[hj]) (fun _ _ _=>rfl)
 ·intro j hj h
  simp[hj]at h
 ·simp[Array.getD]
 ·intro i o j hi h
  have:=(Array.getElem?_eq_some_iff.1 hi).1;simp[this]at h
/-! ### For use: predicates as a list, obligations as a row -/
def cJ(l:List (Value->World->Prop))(i:Nat):Value->World->Prop:=l.getD i (fun _ _=>True)
def gI(R:World->World->Prop):List (Value->World->Prop)->Prop
 | []=>True
 | p :: l=>(∀ v w w',p v w->R w w'->p v w')/\gI R l
theorem cC{R:World->World->Prop}:∀ {l:List (Value->World->Prop)},gI R l->∀ i v w w',cJ l i v w->R w w'->cJ l i v w'
 | [],_,i,v,w,w',_,_=>by simp[cJ]
 | p :: l,h,0,v,w,w',h1,h2=>h.1 v w w' h1 h2
 | p :: l,h,i+1,v,w,w',h1,h2=>cC (l:=l) h.2 i v w w' h1 h2
def uT(v:Nat->Value)(w:World):Nat->List (Value->World->Prop)->Prop
 | _,[]=>True
 | i,p :: l=>p (v i) w/\uT v w (i+1) l
theorem mG{v:Nat->Value}{w:World}:∀ (l:List (Value->World->Prop)) (i:Nat),(∀ j,j<l.length->cJ l j (v (i+j)) w)->uT v w i l
 | [],_,_=>trivial
 | p :: l,i,h=>⟨h 0 (by simp),mG l (i+1) fun j hj=>by
   have:=h (j+1) (by simp;omega);have e:i+1+j=i+(j+1):=by omega
   rw[e]
   exact this⟩
def oT(P:Program)(ops:Array Oper)(a0:Act)(w0:World)(R:World->World->Prop)(Pr:Nat->Value->World->Prop):Nat->List Oper->Prop
 | _,[]=>True
 | i,o :: l=>OpOk P ops a0 w0 R Pr i o/\oT P ops a0 w0 R Pr (i+1) l
theorem N4{a0:Act}{w0:World}{R:World->World->Prop}{Pr:Nat->Value->World->Prop}{i:Nat}:oT P ops a0 w0 R Pr i []:=trivial
theorem jE{a0:Act}{w0:World}{R:World->World->Prop}{Pr:Nat->Value->World->Prop}{i:Nat}{o:Oper}{l:List Oper}(h:OpOk P ops a0 w0 R Pr i o)(k:oT P ops a0 w0 R Pr (i+1) l):oT P ops a0 w0 R Pr i (o :: l):=⟨h,k⟩
theorem mH{a0:Act}{w0:World}{R:World->World->Prop}{Pr:Nat->Value->World->Prop}:∀ {l:List Oper} {i:Nat},oT P ops a0 w0 R Pr i l->∀ (j:Nat) (o:Oper),l[j]?=some o->OpOk P ops a0 w0 R Pr (i+j) o
 | [],_,_,j,o,h=>by simp at h
 | o' :: l,i,h,0,o,e=>by
  simp at e;subst e;exact h.1
 | o' :: l,i,h,j+1,o,e=>by
  have:=mH h.2 j o (by simpa using e);have q:i+1+j=i+(j+1):=by omega
  rw[q]at this;exact this
def aK(o:Oper)(j:Nat):Bool:=o.after.any fun e=>Region.binds .any e&&e.on==j
theorem aQ{o:Oper}{j:Nat}(h:aK o j=true):aY o j:=by
 obtain⟨e,he,hb⟩:=Array.any_eq_true'.1 h;simp only[Bool.and_eq_true,beq_iff_eq]at hb;exact⟨e,he,hb.1,hb.2⟩
def iN(ops:Array Oper)(d:Tmp):Bool:=ops.all fun o=>o.dst != some d
theorem dN{d:Tmp}(h:iN ops d=true)(j:Nat)(p:Oper)(hj:ops[j]?=some p):p.dst≠some d:=by
 have hm:p∈ops:=Array.mem_of_getElem? hj;have:=(Array.all_eq_true'.1 h) p hm;simpa using this
theorem OpOk.of{a0:Act}{w0:World}{R:World->World->Prop}{Pr:Nat->Value->World->Prop}{i:Nat}{o:Oper}(hg:o.guard=none)
  (h:∀ (a:Act) (w:World) (v:Nat->Value) (Q:Exit->Act->World->Prop),R w0 w->(∀ j d,(ops[j]?).bind (·.dst)=some d->aK o j=true->d<a0.tmps.size->a.eval (.tmp d)=v j)->(∀ j,j<ops.size->aK o j=true->Pr j (v j) w)->(∀ d,iN ops d=true->a.eval (.tmp d)=a0.eval (.tmp d)) →
   o.wp P a w (fun a' w'=>∃ u,a'=a.put o.dst u/\R w w'/\Pr i u w') Q):OpOk P ops a0 w0 R Pr i o:=by
 intro a w v Q hR hd hp hb;rw[if_pos (by unfold Region.wanted;rw[hg])];refine h a w v Q hR (fun j d hj hw hlt=>?_) (fun j hj hw=>hp j hj (aQ hw)) (fun d hn=>hb d fun j p hj=>dN hn j p hj);cases ho:ops[j]? with
 | none=>rw[ho]at hj;cases hj
 | some p=>
  rw[ho]at hj;exact hd j p d ho hj hlt (aQ hw)
structure EvOk(ops:Array Oper)(a0:Act)(o:Oper)(v:Nat->Value)(ev:Operand->Value):Prop where
 at_:∀ j d,(ops[j]?).bind (·.dst)=some d->aK o j=true->d<a0.tmps.size->ev (.tmp d)=v j
 old:∀ d,iN ops d=true->ev (.tmp d)=a0.eval (.tmp d)
 con:∀ c,ev (.const c)=c
 fn:∀ f,ev (.func f)=.func (.func f) #[] #[]
 glob:∀ g,ev (.global g)=.pointer (some ⟨g,0,none⟩)
theorem OpOk.val{a0:Act}{w0:World}{R:World->World->Prop}{Pr:Nat->Value->World->Prop}{i:Nat}{o:Oper}(hg:o.guard=none)
  (h:∀ (ev:Operand->Value) (w:World) (v:Nat->Value),R w0 w->EvOk ops a0 o v ev->(∀ j,j<ops.size->aK o j=true->Pr j (v j) w)->∃ u w',(execOp ev o).run P w=.ok (.value u) w'/\R w w'/\Pr i u w'):OpOk P ops a0 w0 R Pr i o:=by
 refine OpOk.of hg fun a w v Q hR get pr old=>?_
 obtain⟨u,w',hr,h1,h2⟩:=h a.eval w v hR ⟨get,old,fun _=>rfl,fun _=>rfl,fun _=>rfl⟩ pr;unfold Oper.wp;rw[hr];exact⟨u,rfl,h1,h2⟩
theorem OpOk.call{a0:Act}{w0:World}{R:World->World->Prop}{Pr:Nat->Value->World->Prop}{i:Nat}{o:Oper}(hg:o.guard=none)
  (h:∀ (ev:Operand->Value) (w:World) (v:Nat->Value),R w0 w->EvOk ops a0 o v ev->(∀ j,j<ops.size->aK o j=true->Pr j (v j) w)->∃ f args,(execOp ev o).run P w=.ok (.enter f args) w/\Calls P f args w fun e w'=>∃ u,e=.returned u/\R w w'/\Pr i u w'):OpOk P ops a0 w0 R Pr i o:=by
 refine OpOk.of hg fun a w v Q hR get pr old=>?_
 obtain⟨f,args,hr,hc⟩:=h a.eval w v hR ⟨get,old,fun _=>rfl,fun _=>rfl,fun _=>rfl⟩ pr;unfold Oper.wp;rw[hr];refine Calls.mono hc ?_;rintro e w' ⟨u,rfl,h1,h2⟩;exact⟨u,rfl,h1,h2⟩
theorem bW{id:Nat}{a0:Act}{w0:World}(hm:P.follows .mixedOrders=true)(hok:cE ops=true)(haw:dV ops=true)(R:World->World->Prop)(hR0:∀ w,R w w)(hRt:∀ u v w,R u v->R v w->R u w)(l:List (Value->World->Prop))(hPr:gI R l)(hll:l.length=ops.size-1)
  (hstep:oT P ops a0 w0.drew R (cJ l) 0 (ops.toList.take (ops.size-1))) (o9:Oper) (ho9:ops[ops.size-1]?=some o9) (hg9:o9.guard=none) (hd9:o9.dst=none)
  (Fin:(Nat->Value)->World->Prop)
  (hstore:∀ (ev:Operand->Value) (w':World) (v:Nat->Value),R w0.drew w'->EvOk ops a0 o9 v ev->uT v w' 0 l->∃ w'',(execOp ev o9).run P w'=.ok .skip w''/\Fin v w'')
  (hend:∀ v w'',Fin v w''->Q .normal (bF v 0 (ops.toList.take (ops.size-1)) a0) w''):(Code.region id ops true).wp P Q a0 w0:=by
 refine yW hm hok haw R hR0 hRt (cJ l) (cC hPr) (fun i o hi ho=>?_) o9 ho9 (fun v w' hR hp=>?_)
 ·have:=mH hstep i o (by
   rw[List.getElem?_take,if_pos (by omega)]
   simpa using ho)
  rw[Nat.zero_add]at this;exact this
 ·rw[if_pos (by unfold Region.wanted;rw[hg9])]
  have hF:=lL hok v a0 (ops.toList.take (ops.size-1)) 0 a0 (fun k hk=>by
   simp at hk;rw[List.getElem?_take,if_pos (by omega)]
   simp) ((Fr.init a0 v).congr (fun j _=>by simp) (fun _ _ _=>rfl))
  have hlen:(ops.toList.take (ops.size-1)).length=ops.size-1:=by simp
  rw[hlen,Nat.zero_add]at hF
  have hE:EvOk ops a0 o9 v (bF v 0 (ops.toList.take (ops.size-1)) a0).eval:=by
   refine⟨fun j d hj hw hlt=>?_,fun d hn=>?_,fun _=>rfl,fun _=>rfl,fun _=>rfl⟩
   ·cases ho:ops[j]? with
    | none=>rw[ho]at hj;cases hj
    | some p=>
     rw[ho]at hj;have hj1:j<ops.size-1:=(bO hok ho9).1 j (aQ hw);have:=hF.done j p d ho (by simp[hj1]) hj hlt;simp[Act.eval,Array.getD_eq_getD_getElem?,this]
   ·have:=hF.rest d fun j p hj _=>dN hn j p hj
    simp[Act.eval,Array.getD_eq_getD_getElem?,this]
  obtain⟨w'',hr,hf⟩:=hstore _ w' v hR hE (mG l 0 fun j hj=>by rw[Nat.zero_add];exact hp j (by omega));unfold Oper.wp;rw[hr];simp only[Oper.upon,hd9];exact hend v w'' hf
theorem bQ{id:Nat}{a0:Act}{w0:World}(hm:P.follows .mixedOrders=true)(hok:cE ops=true)(R:World->World->Prop)(hR0:∀ w,R w w)(hRt:∀ u v w,R u v->R v w->R u w)(l:List (Value->World->Prop))(hPr:gI R l)(hll:l.length=ops.size)
  (hstep:oT P ops a0 w0.drew R (cJ l) 0 ops.toList)
  (hend:∀ v w',R w0.drew w'->uT v w' 0 l->Q .normal (bF v 0 ops.toList a0) w'):(Code.region id ops true).wp P Q a0 w0:=by
 refine yV hm hok R hR0 hRt (cJ l) (cC hPr) (fun i o ho=>?_) (fun v w' hR hp=>?_)
 ·have:=mH hstep i o (by simpa using ho)
  rw[Nat.zero_add]at this;exact this
 ·exact hend v w' hR (mG l 0 fun j hj=>by rw[Nat.zero_add];exact hp j (by omega))
end
end
section
open Go.RowKit
def cV(f:Nat->Value)(m:Nat):List Value:=(List.range m).map f
theorem bR(f:Nat->Value)(m:Nat):(cV f m).length=m:=by simp[cV]
theorem dH{f:Nat->Value}{m j:Nat}(h:j<m):(cV f m)[j]?=some (f j):=by simp[cV,h]
theorem xN{f g:Nat->Value}{m:Nat}(h:∀ j,j<m->f j=g j):cV f m=cV g m:=by
 apply List.ext_getElem?;intro j
 by_cases hj:j<m
 ·rw[dH hj,dH hj,h j hj]
 ·rw[List.getElem?_eq_none (by rw[bR];omega),List.getElem?_eq_none (by rw[bR];omega)]
theorem F5{f g h:Nat->Value}{a b:Nat}(h1:∀ j,j<a->h j=f j)(h2:∀ j,j<b->h (a+j)=g j):cV f a++cV g b=cV h (a+b):=by
 apply List.ext_getElem?;intro j
 by_cases hj:j<a
 ·rw[List.getElem?_append_left (by rw[bR];exact hj),dH hj,dH (by omega),h1 j hj]
 ·rw[List.getElem?_append_right (by rw[bR];omega),bR]
  by_cases hj2:j<a+b
  ·rw[dH (by omega),dH hj2,<-h2 (j-a) (by omega)]
   congr 2
   omega
  ·rw[List.getElem?_eq_none (by rw[bR];omega),List.getElem?_eq_none (by rw[bR];omega)]
def GRow(w:World)(ao:Option Addr)(m:Nat)(f:Nat->Value):Prop:=0<m->∃ b o,ao=some ⟨b,o,none⟩/\∀ j,j<m->w.cell? ⟨b,o+j,none⟩=some (f j)
theorem GRow.below{w w':World}{B:Nat}{ao:Option Addr}{m:Nat}{f:Nat->Value}(h:GRow w ao m f)(hb:Below B w w')(hB:w.heap.size<=B):GRow w' ao m f:=fun hm=>by
 obtain⟨b,o,e,hc⟩:=h hm;refine⟨b,o,e,fun j hj=>?_⟩;have h0:=hc j hj;have hlt:=dB h0;rw[hb.cell (by simp;omega)];exact h0
theorem GRow.next{w w':World}{ao:Option Addr}{m:Nat}{f:Nat->Value}(h:GRow w ao m f)(hb:Below w.heap.size w w'):GRow w' ao m f:=h.below hb nl
theorem GRow.news{w:World}{b o m:Nat}{f:Nat->Value}(h:GRow w (some ⟨b,o,none⟩) m f):∀ j u,(cV f m)[j]?=some u->w.cell? ((⟨b,o,none⟩:Addr).add j)=some u:=fun j u hu=>by
 have hj:j<m:=by
  rcases Nat.lt_or_ge j m with q|q
  ·exact q
  ·rw[List.getElem?_eq_none (by rw[bR];exact q)]at hu;cases hu
 rw[dH hj]at hu;obtain rfl:=oI hu;obtain⟨b',o',e,hc⟩:=h (by omega);cases e;rw[Addr.add_mid];exact hc j hj
def GOwn(w:World)(base:Nat)(t:TypeId)(size:Nat)(ao:Option Addr)(n cap:Nat)(f:Nat->Value):Prop:=w.ownsRow base t size (.slice ao n cap) n (cV f (n*size))
theorem GOwn.nil(w:World)(base:Nat)(t:TypeId)(size:Nat)(f:Nat->Value):GOwn w base t size none 0 0 f:=⟨by simp[cV],.inl ⟨rfl,rfl⟩⟩
theorem mP(w:World)(t:TypeId)(size:Nat):(w.alloc (.cells #[] t)).ownsRow w.heap.size t size (.slice (some ⟨w.heap.size,0,none⟩) 0 0) 0 []:=by
 have:=World.ownsRow_lit (base:=w.heap.size) (e:=t) (size:=size) w #[] 0 (by simp) (by simp) (by simp);simpa using this
theorem GOwn.empty(w:World)(t:TypeId)(size:Nat)(f:Nat->Value):GOwn (w.alloc (.cells #[] t)) w.heap.size t size (some ⟨w.heap.size,0,none⟩) 0 0 f:=by
 unfold GOwn;have e:cV f (0*size)=[]:=by simp[cV]
 rw[e];exact mP w t size
theorem GOwn.congr{w:World}{base:Nat}{t:TypeId}{size:Nat}{ao:Option Addr}{n cap:Nat}{f g:Nat->Value}(h:GOwn w base t size ao n cap f)(e:∀ j,j<n*size->f j=g j):GOwn w base t size ao n cap g:=by
 unfold GOwn at h ⊢;rw[<-xN e];exact h
theorem GOwn.at{w:World}{base:Nat}{t:TypeId}{size:Nat}{ao:Option Addr}{n cap x:Nat}{f:Nat->Value}(h:GOwn w base t size ao n cap f)(e:(Value.slice ao n cap).ownBlock=some x):base<=x/\x<w.heap.size:=World.ownsRow.lt h x e
theorem GOwn.of_block{w w':World}{base:Nat}{t:TypeId}{size:Nat}{ao:Option Addr}{n cap:Nat}{f:Nat->Value}(h:GOwn w base t size ao n cap f)(e:∀ x,(Value.slice ao n cap).ownBlock=some x->w'.heap[x]?=w.heap[x]?):GOwn w' base t size ao n cap f:=by
 obtain⟨hl,ho⟩:=h;refine⟨hl,?_⟩;rcases ho with h1|⟨g,cap',cur,e1,hb,hblk,r⟩
 ·exact .inl h1
 ·refine .inr ⟨g,cap',cur,e1,hb,?_,r⟩
  rw[e g (by rw[e1];rfl)];exact hblk
theorem GOwn.next{w w':World}{base:Nat}{t:TypeId}{size:Nat}{ao:Option Addr}{n cap:Nat}{f:Nat->Value}(h:GOwn w base t size ao n cap f)(hb:Below w.heap.size w w'):GOwn w' base t size ao n cap f:=h.of_block (fun x e=>hb.block x (h.at e).2)
theorem GOwn.grown{w w':World}{base:Nat}{t:TypeId}{size:Nat}{ao:Option Addr}{n cap:Nat}{f:Nat->Value}{row:Option Nat}(h:GOwn w base t size ao n cap f)(hg:w.grownBy w' row)(hne:∀ x,(Value.slice ao n cap).ownBlock=some x->row≠some x):GOwn w' base t size ao n cap f:=h.of_block (fun x e=>hg.block x (h.at e).2 (fun q=>hne x e q.symm))
theorem GOwn.from{w:World}{base base':Nat}{t:TypeId}{size:Nat}{ao:Option Addr}{n cap:Nat}{f:Nat->Value}(h:GOwn w base t size ao n cap f)(hb:base'<=base):GOwn w base' t size ao n cap f:=by
 obtain⟨hl,ho⟩:=h;refine⟨hl,?_⟩;rcases ho with h1|⟨g,cap',cur,e1,hb1,r⟩
 ·exact .inl h1
 ·exact .inr ⟨g,cap',cur,e1,Nat.le_trans hb hb1,r⟩
theorem GOwn.vhas{w:World}{base:Nat}{t:TypeId}{size:Nat}{ao:Option Addr}{n cap:Nat}{f:Nat->Value}(h:GOwn w base t size ao n cap f)(hn:0<n):∃ g,ao=some ⟨g,0,none⟩/\base<=g/\VHas w g t (n*size) f:=by
 obtain⟨hl,h⟩:=h;rcases h with ⟨e,e0⟩|⟨g,cap',cur,e,hb,hblk,hnc,hcm,hsz,ht⟩
 ·cases e;omega
 ·cases e
  refine⟨g,rfl,hb,cur,hblk,?_,fun j hj=>?_⟩
  ·have:=congrArg List.length ht
   rw[bR]at this;simp at this;omega
  ·have h3:(cur.toList.take (n*size))[j]?=some (f j):=by rw[ht,dH hj]
   rw[List.getElem?_take,if_pos hj]at h3;simpa using h3
def FN(w:World)(t:TypeId)(ao:Option Addr)(m:Nat)(f:Nat->Value):Prop:=0<m->∃ g,ao=some ⟨g,0,none⟩/\VHas w g t m f
def aG(w:World)(b:Nat)(t:TypeId):Prop:=∃ cs z,w.heap[b]?=some (.cells cs t z)
theorem VHas.typed{w:World}{b n:Nat}{t:TypeId}{f:Nat->Value}(h:VHas w b t n f):aG w b t:=by
 obtain⟨cs,h1,_⟩:=h;exact⟨cs,_,h1⟩
theorem jK{w:World}{b c:Nat}{t u:TypeId}(h:aG w b t)(k:aG w c u)(hn:t≠u):b≠c:=fun e=>by
 obtain⟨c1,z1,h1⟩:=h;obtain⟨c2,z2,h2⟩:=k;rw[e,h2]at h1;simp at h1;exact hn h1.2.1.symm
theorem GOwn.typed{w:World}{base:Nat}{t:TypeId}{size:Nat}{ao:Option Addr}{n cap x:Nat}{f:Nat->Value}(h:GOwn w base t size ao n cap f)(e:(Value.slice ao n cap).ownBlock=some x):aG w x t:=by
 obtain⟨hl,ho⟩:=h;rcases ho with ⟨h1,_⟩|⟨g,cap',cur,e1,hb,hblk,r⟩
 ·rw[h1]at e;cases e
 ·rw[e1]at e
  obtain rfl:g=x:=by simpa[Value.ownBlock] using e
  exact⟨cur,_,hblk⟩
theorem GOwn.trow{w:World}{base:Nat}{t:TypeId}{size:Nat}{ao:Option Addr}{n cap:Nat}{f:Nat->Value}(h:GOwn w base t size ao n cap f):FN w t ao (n*size) f:=fun hm=>by
 obtain⟨g,e,_,hv⟩:=h.vhas (by rcases Nat.eq_zero_or_pos n with q|q;(· rw[q]at hm;simp at hm);exact q);exact⟨g,e,hv⟩
theorem VHas.gr{w w':World}{b n:Nat}{t u:TypeId}{f:Nat->Value}{row:Option Nat}(h:VHas w b t n f)(hg:w.grownBy w' row)(hx:∀ x,row=some x->aG w x u)(hn:t≠u):VHas w' b t n f:=h.grown hg (fun q=>jK h.typed (hx b q.symm) hn rfl)
theorem GOwn.gr{w w':World}{base:Nat}{t u:TypeId}{size:Nat}{ao:Option Addr}{n cap:Nat}{f:Nat->Value}{row:Option Nat}(h:GOwn w base t size ao n cap f)(hg:w.grownBy w' row)(hx:∀ x,row=some x->aG w x u)(hn:t≠u):GOwn w' base t size ao n cap f:=
 h.grown hg (fun x e q=>jK (h.typed e) (hx x q) hn rfl)
def lf(l:List Value)(j:Nat):Value:=l.getD j undef
def setL(W:World)(b:Nat):Nat->List Value->World
 | _,[]=>W
 | k,v :: vs=>setL (W.setCell ⟨b,k,none⟩ v) b (k+1) vs
theorem bP(b:Nat):∀ (vs:List Value) (k:Nat) (W:World),W.grownBy (setL W b k vs) (some b)
 | [],k,W=>⟨rfl,rfl,rfl,Nat.le_refl _,fun _ _ _=>rfl⟩
 | v :: vs,k,W=>(aC W b k v).trans (bP b vs (k+1) _)
theorem vI{b n:Nat}{t:TypeId}:∀ (vs:List Value) (k:Nat) (W:World) (f:Nat->Value),VHas W b t n f->VHas (setL W b k vs) b t n (fun j=>if k<=j/\j<k+vs.length then lf vs (j-k) else f j)
 | [],k,W,f,h=>h.congr (fun j hj=>by rw[if_neg (fun q=>by simp at q;omega)])
 | v :: vs,k,W,f,h=>by
  have h1:=vI vs (k+1) _ _ (h.set k v);refine h1.congr (fun j hj=>?_)
  by_cases e:j=k
  ·subst e
   rw[if_neg (by omega),if_pos rfl,if_pos (by simp),Nat.sub_self];rfl
  ·by_cases c:k+1<=j/\j<k+1+vs.length
   ·rw[if_pos c,if_pos (by simp;omega)]
    have:j-k=(j-(k+1))+1:=by omega
    rw[this];rfl
   ·rw[if_neg c,if_neg e,if_neg (by simp;omega)]
theorem sQ{P:Program}{b n:Nat}{t:TypeId}:∀ (vs:List Value) (k:Nat) (W:World) (f:Nat->Value),VHas W b t n f->k+vs.length<=n->(∀ v∈vs,v.oneCell'=true)->(storeCells ⟨b,0,none⟩ vs k).run P W=.ok () (setL W b k vs)
 | [],k,W,f,_,_,_=>by simp[storeCells,setL]
 | v :: vs,k,W,f,h,hk,hv=>by
  have e1:(⟨b,0,none⟩:Addr).add k=⟨b,k,none⟩:=by rw[Addr.add_mid,Nat.zero_add]
  have c1:=h.cell (j:=k) (by simp at hk;omega);have z1:=h.frozen k;have ih:=sQ (P:=P) vs (k+1) _ _ (h.set k v) (by simp at hk;omega) (fun u hu=>hv u (List.mem_cons_of_mem _ hu))
  show Sem.run P (store ((⟨b,0,none⟩:Addr).add k) v >>= fun _=>storeCells ⟨b,0,none⟩ vs (k+1)) W = _
  rw[Sem.run_bind,e1,run_store P W _ v _ (hv v (List.mem_cons_self ..)),c1];simp only[z1];exact ih
theorem pA{P:Program}{b:Nat}{t ty:TypeId}{f:Nat->Value}{W:World}(vs:List Value)(h:VHas W b t vs.length f)(hi:(P.info? ty).map (·.size)=some vs.length)(hv:∀ v∈vs,v.oneCell'=true):(storeVar ty ⟨b,0,none⟩ (.agg vs.toArray)).run P W=.ok () (setL W b 0 vs):=by
 cases hq:P.info? ty with
 | none=>simp[hq]at hi
 | some i=>
  have hs:i.size=vs.length:=by simpa[hq] using hi
  have hr:=sQ (P:=P) vs 0 W f h (by omega) hv;simp[storeVar,sizeOf,typeInfo,hq,Value.cells,hs,hr]
theorem bE{b:Nat}{t:TypeId}{f:Nat->Value}{W:World}(vs:List Value)(h:VHas W b t vs.length f):VHas (setL W b 0 vs) b t vs.length (lf vs):=
 (vI vs 0 W f h).congr (fun j hj=>by rw[if_pos ⟨Nat.zero_le _,by omega⟩,Nat.sub_zero])
theorem xL{P:Program}{o:Oper}{a:Act}{W:World}{K:Act->World->Prop}{Q:Exit->Act->World->Prop}(ty:TypeId)(x y:Operand)(ho:o.op=.store ty x y)(b:Nat)(vs:List Value)(hx:a.eval x=.pointer (some ⟨b,0,none⟩))(hy:a.eval y=.agg vs.toArray)
  {t:TypeId} {f:Nat->Value} (hb:VHas W b t vs.length f) (hi:(P.info? ty).map (·.size)=some vs.length) (hv:∀ v∈vs,v.oneCell'=true)
  (h:∀ W',VHas W' b t vs.length (lf vs)->W.grownBy W' (some b)->K (a.put o.dst undef) W'):o.wp P a W K Q:=by
 have hrun:=pA (P:=P) (ty:=ty) vs hb hi hv;unfold Oper.wp execOp;simp only[ho,hx,hy,Instr.storeAt,Instr.sureAddr,Sem.run_bind,Sem.run_pure,Result.andThen_ok,hrun];exact h _ (bE vs hb) (bP b vs 0 W)
theorem gY{P:Program}{o:Oper}{ops:Array Oper}{rest:List Oper}{a:Act}{W:World}{Q:Exit->Act->World->Prop}(hgd:o.guard=none)(ty:TypeId)(x y:Operand)(ho:o.op=.store ty x y)(hd:o.dst=none)(b:Nat)(vs:List Value)(hx:a.eval x=.pointer (some ⟨b,0,none⟩))(hy:a.eval y=.agg vs.toArray)
  {t:TypeId} {f:Nat->Value} (hb:VHas W b t vs.length f) (hi:(P.info? ty).map (·.size)=some vs.length) (hv:∀ v∈vs,v.oneCell'=true)
  (h:∀ W',VHas W' b t vs.length (lf vs)->W.grownBy W' (some b)->wpList P ops Q rest a W'):wpList P ops Q (o :: rest) a W:=
 wpList_plain hgd fun K hK=>xL ty x y ho b vs hx hy hb hi hv fun W' h1 h2=>hK _ _ (by rw[hd];exact h W' h1 h2)
end
end Go.Proofs.YtbabakgjkloabaaGreatDoor
