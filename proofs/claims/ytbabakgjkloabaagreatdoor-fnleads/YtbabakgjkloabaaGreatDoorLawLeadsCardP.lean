/-
 Proved: at every list of bytes the law FnLeads answers true, and its argument and the variable that it names read behind the call as they read before; what this variable reads as is tied to the program's text. No condition.
-/
import Derived.Test.YtbabakgjkloabaaGreatDoorPack28
import Derived.Test.YtbabakgjkloabaaGreatDoorTie
import Derived.Test.YtbabakgjkloabaaGreatDoorCards
import Derived.ProofKit
import Derived.LaidMore
import Derived.OpenShut
import Derived.OpenVars
import Derived.ChangeVars
import Derived.Stop.Joined
import Derived.Stop.LaidErr
import Derived.ChangeMaps5
import Derived.Shelf.Vars
import Derived.Handed
import Derived.Lay
import Derived.SevenTiedAt
set_option linter.unusedVariables false
set_option linter.unusedSimpArgs false
namespace Go.Proofs.YtbabakgjkloabaaGreatDoor
open Go.ChangeShapes Go.WideShapes Go.ChangeAt Go.RowKit Go.Deep Go.Joins
attribute [local go_sem ↓] Go.wp_at_zero Go.wp_at_succ

theorem vars_shape1 {H:Type} {enc:TypeId × Value->H} {P:Program} {w:World} {sp:Nat->Bool} {a:String} {gs:List (DataW H)} {q:List MemPlace} (h:DataW.TrodVars enc P w sp [a] gs q):∃ g0,gs=[g0]:=by
 match gs,h with
 | [],h=>exact h.elim
 | [g0],_=>exact⟨g0,rfl⟩
 | _ :: _ :: _,h=>
  obtain⟨_,_,_,_,_,_,_,_,_,_,hs,_⟩:=h;exact hs.elim

theorem star : "*" ++ "errors.errorString" = "*errors.errorString" := by decide
theorem rowErr (u:TypeId) (h:Tryz.prog.typeName? 3 u=some "*errors.errorString"):u=199:=
 typeName_ptr_named (nm := "errors.errorString") (by rw[star];kernel_rfl) (by kernel_rfl) (by decide) u (by rw[star];exact h)

set_option maxRecDepth 100000 in
theorem lawFnLeads_lifted (os:Os) (started:os.Started) (H:Type) (enc:TypeId × Value->H):
  ReturnsInHanded {} Tryz.checked os 4 .any (fun w args=>(Rows.fnLeadsSpec.pre enc Tryz.prog Tryz.f4 [] false w args/\laidMetH Tryz.prog Rows.fnLeadsRow.laid w)/\sizedMet enc Tryz.prog Tryz.f4 (OpenSpec.ofChange Rows.fnLeadsSpec) false w args)
   (Rows.fnLeadsSpec.post enc Tryz.prog Tryz.f4 false true false false):=by
 refine returnsInHanded_of_change_and (C:=Tryz.checked) (X:=fun w _=>laidMetH Tryz.prog Rows.fnLeadsRow.laid w) (fun _ _ _ hh h=>h.of_heap hh) Tryz.own started (by kernel_rfl) Tryz.func4
  (ChangeSpec.witness_shaped (enc:=enc) (C:=Tryz.checked) (os:=os) (X:=fun w _=>laidMetH Tryz.prog Rows.fnLeadsRow.laid w) false (World.laidAll Tryz.prog os Rows.fnLeadsRow.laid) #[.slice none 0 0] 8 (World.laidAll_os _ _ _)
   (World.shaped_of_ZipB (by kernel_rfl) (by kernel_rfl)) (by kernel_rfl) (by kernel_rfl) (by kernel_rfl)
   (by rw[MakeChecks.laidMetH_plain _ _ _ (by kernel_rfl)];exact laidMet_laidAll _ (by kernel_rfl) (by kernel_rfl))) ?_
 intro W base args ds gs before hval0 hW _ _ hL0 _;have hval:∀ (j:Nat) t v,Tryz.f4.params[j]?=some t->args[j]?=some v->Value.okWide Tryz.prog W .any base t v:=hval0;have hL:=hL0;rw[MakeChecks.laidMetH_plain _ _ _ (by kernel_rfl)]at hL
 obtain⟨aL,saL,haL,_⟩:=laid_sentinel hL (show Tryz.prog.globalNamed "loop.example/g00161/impl.errNoLog" = some 0 by kernel_rfl) (show (Tryz.prog.globals[0]?).map (·.type)=some 127 by kernel_rfl) Tryz.underlying127 rowErr (tp:=199) (te:=221) (ts:=9) Tryz.underlying199 Tryz.underlying221 rfl rfl Tryz.underlying9 (by kernel_rfl) (by kernel_rfl)
 have caL:W.cell? ⟨0,0,none⟩=some (.iface 199 (.pointer (some aL))):=by simpa using World.var?_cell (show Tryz.prog.globalNamed "loop.example/g00161/impl.errNoLog" = some 0 by kernel_rfl) haL 0
 have hW':=hW;obtain⟨p,q,hA0,hV0,rfl,hfz,hnd⟩:=hW;have hA:DataW.TrodAll enc Tryz.prog W 0 (fun _=>true) true Tryz.f4.params.toList args.toList ds p:=hA0
 have hV:DataW.TrodVars enc Tryz.prog W (fun _=>true) ["loop.example/g00161/impl.errNoLog"] gs q:=hV0
 rw[Tryz.params4]at hA hval;obtain⟨v0,vs0,d0,ds0,p0,q0,hargs,rfl,rfl,h0,r0⟩:=trodAll_cons hA;obtain⟨rfl,rfl,rfl⟩:=trodAll_nil r0;obtain rfl:args=#[v0]:=by cases args;simp_all
 have hVk:=hV;obtain⟨g0,rfl⟩:∃ g0,gs=[g0]:=vars_shape1 hV;have k0:=h0;have lt0:∀ x∈p0,x.block<W.heap.size:=by obtain⟨m,hm⟩:=k0;exact DataW.trod_lt m _ _ _ hm
 obtain⟨b1,l1,c1',rfl⟩:=okWide_slice Tryz.underlying22 (hval 0 22 v0 rfl rfl);obtain⟨f0,hf0⟩:=h0;obtain⟨ao2,m2,cap2,e2,hm2,hr2⟩:=open_bytes hf0;simp[Value.cells]at e2;obtain⟨rfl,rfl,rfl⟩:=e2;clear hA0 hV0 hval0;refine (lawLeads_walk b1 l1 c1' hm2 W hr2 aL aL aL ⟨caL⟩).mono fun e W' ⟨he,bel⟩=>?_
 subst he;exact⟨_,rfl,_,_,_,[],_,_,hW',trodAll_mk1 (shut_bool Tryz.underlying4 _),(trodAll_cons_mk (Below.trod Tryz.laidOut (by kernel_rfl) (of_decide_eq_true (by kernel_rfl)) k0 bel lt0) trodAll_mk0),Below.trodVars Tryz.laidOut bel (by kernel_rfl) hVk,bel.frame _,fun h=>by cases h⟩

theorem fnLeads_row:Rows.FnLeadsSaid:=
 OpenClaim.holds_of_wide 4 Tryz.f4 rfl rfl rfl rfl rfl rfl rfl ⟨rfl,rfl,rfl,rfl,rfl⟩ rfl rfl rfl rfl rfl (by kernel_rfl) Tryz.func4 (by kernel_rfl)
  (of_decide_eq_true (by kernel_rfl)) (by unfold Func.isWrapper;first|(rw[if_pos (by decide +kernel)];kernel_rfl)|(rw[if_neg (by decide +kernel)];exact⟨rfl,rfl⟩))
  (fun os started H enc _=>lawFnLeads_lifted os started H enc)

theorem fnLeads_holds:Rows.FnLeadsCardSaid:=
 Claim7.holds_tied_plain_at .later [] [.sentinel] true Rows.fnLeadsCard.stood.harness true
  fnLeads_row (fun _ h=>by cases h) (by kernel_rfl) (fun _ h=>by cases h) fnLeads_row_tie rfl ⟨rfl,rfl⟩ (by kernel_rfl) rfl
  (fun f fn hf hfn=>by
   obtain rfl:f=4:=Option.some.inj ((show Tryz.prog.funcNamed Rows.fnLeadsRow.func=some 4 by kernel_rfl).symm.trans hf) |>.symm
   obtain rfl:fn=Tryz.f4:=(Option.some.inj (Tryz.func4.symm.trans hfn)).symm
   exact⟨by kernel_rfl,fun j t ht=>by
    rw[Tryz.params4]at ht;have hm:t∈[22]:=by simpa using Array.mem_of_getElem? ht
    have hall:([22].all fun u=>!Tryz.prog.wantsStandIn u)=true:=by kernel_rfl
    exact (show Tryz.prog.wantsStandIn t=false by simpa using List.all_eq_true.1 hall t hm)⟩)
  (by kernel_rfl)
#print axioms fnLeads_holds

end Go.Proofs.YtbabakgjkloabaaGreatDoor
