/-
 Proved: at every list of bytes the law FnVotes answers true, and its argument and the variables that it names read behind the call as they read before; what these variables read as is tied to the program's text. No condition.
-/
import Derived.Test.YtbabakgjkloabaaGreatDoorPack30
import Derived.Test.YtbabakgjkloabaaGreatDoorTie
import Derived.Test.YtbabakgjkloabaaGreatDoorCards
import Derived.LaidMore
import Derived.OpenVars
import Derived.ChangeVars
import Derived.Stop.Joined
import Derived.Stop.LaidErr
import Derived.ChangeMaps5
import Derived.Shelf.Vars
import Derived.Handed
import Derived.LaidHandle
import Derived.Deep.DeepLaidRun
import Derived.Lay
import Derived.SevenTiedAt
set_option linter.unusedVariables false
set_option linter.unusedSimpArgs false
namespace Go.Proofs.YtbabakgjkloabaaGreatDoor
open Go.ChangeShapes Go.WideShapes Go.ChangeAt Go.RowKit Go.Deep Go.Joins
attribute [local go_sem ↓] Go.wp_at_zero Go.wp_at_succ

theorem A7{H:Type}{enc:TypeId × Value->H}{P:Program}{w:World}{sp:Nat->Bool}{a:String}{gs:List (DataW H)}{q:List MemPlace}(h:DataW.TrodVars enc P w sp [a] gs q):∃ g0,gs=[g0]:=by
 match gs,h with
 | [],h=>exact h.elim
 | [g0],_=>exact⟨g0,rfl⟩
 | _ :: _ :: _,h=>
  obtain⟨_,_,_,_,_,_,_,_,_,_,hs,_⟩:=h;exact hs.elim
theorem A8{H:Type}{enc:TypeId × Value->H}{P:Program}{w:World}{sp:Nat->Bool}{a b c:String}{gs:List (DataW H)}{q:List MemPlace}(h:DataW.TrodVars enc P w sp [a,b,c] gs q):∃ g0 g1 g2,gs=[g0,g1,g2]:=by
 match gs,h with
 | [],h=>exact h.elim
 | g0 :: gs,h=>
  obtain⟨_,_,_,_,_,_,_,_,_,_,hs,_⟩:=h
  match gs,hs with
  | [],hs=>exact hs.elim
  | g1 :: gs,hs=>
   obtain⟨_,_,_,_,_,_,_,_,_,_,ht,_⟩:=hs;obtain⟨g2,rfl⟩:=A7 ht;exact⟨g0,g1,g2,rfl⟩

theorem FA : "*" ++ "errors.errorString" = "*errors.errorString" := by decide
theorem I5(u:TypeId)(h:Tryz.prog.typeName? 3 u=some "*errors.errorString"):u=199:=
 typeName_ptr_named (nm := "errors.errorString") (by rw[FA];kernel_rfl) (by kernel_rfl) (by decide) u (by rw[FA];exact h)
theorem Tryz.et:Tryz.prog.globalNamed "errors.errorType" = some 3:=by kernel_rfl
theorem Tryz.rt:(Tryz.prog.cutTypes.find? (·.1 == "internal/reflectlite.rtype")).map (·.2)=some 172:=by kernel_rfl
theorem Tryz.oneRow:((List.range (342-100)).filter fun t=>Tryz.prog.rowNamed t [101,114,114,111,114])=[127]:=by kernel_rfl
theorem Tryz.typesSize:Tryz.prog.types.size=342-100:=by kernel_rfl
theorem A9{W:World}(h:laidMetH Tryz.prog Rows.fnVotesRow.laid W):laidMet Tryz.prog [("loop.example/g00161/impl.errNoLog",Rows.laid_loop_example_g00161_impl_errNoLog),("loop.example/g00161/impl.errNoEntry",Rows.laid_loop_example_g00161_impl_errNoEntry),("loop.example/g00161/impl.errOtherTerm",Rows.laid_loop_example_g00161_impl_errOtherTerm)] W/\handlesMet Tryz.prog [("errors.errorType",Rows.laid_errors_errorType)] W:=h
theorem R8{W:World}(h:handlesMet Tryz.prog [("errors.errorType",Rows.laid_errors_errorType)] W):W.cell? ⟨3,0,none⟩=some (.iface 172 (.agg #[lZ 127])):=by
 obtain⟨name,u,ty,e1,e2,e3,e4,e5⟩:=h _ (List.mem_singleton.2 rfl);have en:name=[101,114,114,111,114]:=(oI e1).symm;subst en;obtain rfl:=oI (Tryz.rt.symm.trans e2);have hm:ty∈(List.range (342-100)).filter fun t=>Tryz.prog.rowNamed t [101,114,114,111,114]:=List.mem_filter.2 ⟨List.mem_range.2 (by rw[<-Tryz.typesSize];exact e3),e4⟩
 rw[Tryz.oneRow]at hm;obtain rfl:=List.mem_singleton.1 hm;have hh:typeHandle Tryz.prog 127=lZ 127:=by kernel_rfl
 rw[hh]at e5;simpa using World.var?_cell Tryz.et e5 0
theorem I7(os:Os)(args:Array Value):laidMetH Tryz.prog Rows.fnVotesRow.laid ((World.doorLaid Tryz.prog 4000 os).forCall (fun _ _=>0) ⟨#[],args,[]⟩).memory:=
 laidMetH_of_parts (laidMet_of_run3 8 (by kernel_rfl) (by kernel_rfl) (by kernel_rfl)) (by kernel_rfl)

set_option maxRecDepth 100000 in
theorem pN(os:Os)(started:os.Started)(H:Type)(enc:TypeId × Value->H):
  ReturnsInHanded {} Tryz.checked os 3 .any (fun w args=>(Rows.fnVotesSpec.pre enc Tryz.prog Tryz.f3 [] false w args/\laidMetH Tryz.prog Rows.fnVotesRow.laid w)/\sizedMet enc Tryz.prog Tryz.f3 (OpenSpec.ofChange Rows.fnVotesSpec) false w args)
   (Rows.fnVotesSpec.post enc Tryz.prog Tryz.f3 false true false false):=by
 refine returnsInHanded_of_change_and (C:=Tryz.checked) (X:=fun w _=>laidMetH Tryz.prog Rows.fnVotesRow.laid w) (fun _ _ _ hh h=>h.of_heap hh) Tryz.own started (by kernel_rfl) Tryz.func3
  (ChangeSpec.witness_shaped (enc:=enc) (C:=Tryz.checked) (os:=os) (X:=fun w _=>laidMetH Tryz.prog Rows.fnVotesRow.laid w) false (World.doorLaid Tryz.prog 4000 os) #[.slice none 0 0] 8 rfl (World.shaped_of_RefB (by kernel_rfl) (by kernel_rfl)) (by kernel_rfl) (by kernel_rfl) (by kernel_rfl) (I7 os _)) ?_
 intro W base args ds gs before hval0 hW _ _ hL0 _;have hval:∀ (j:Nat) t v,Tryz.f3.params[j]?=some t->args[j]?=some v->Value.okWide Tryz.prog W .any base t v:=hval0;obtain⟨hL,hH0⟩:=A9 hL0;have cH:=R8 hH0
 obtain⟨aL,saL,haL,_⟩:=laid_sentinel hL (show Tryz.prog.globalNamed "loop.example/g00161/impl.errNoLog" = some 0 by kernel_rfl) (show (Tryz.prog.globals[0]?).map (·.type)=some 127 by kernel_rfl) Tryz.underlying127 I5 (tp:=199) (te:=221) (ts:=9) Tryz.underlying199 Tryz.underlying221 rfl rfl Tryz.underlying9 (by kernel_rfl) (by kernel_rfl)
 have caL:W.cell? ⟨0,0,none⟩=some (.iface 199 (.pointer (some aL))):=by simpa using World.var?_cell (show Tryz.prog.globalNamed "loop.example/g00161/impl.errNoLog" = some 0 by kernel_rfl) haL 0
 obtain⟨aE,saE,haE,_⟩:=laid_sentinel hL.tail (show Tryz.prog.globalNamed "loop.example/g00161/impl.errNoEntry" = some 1 by kernel_rfl) (show (Tryz.prog.globals[1]?).map (·.type)=some 127 by kernel_rfl) Tryz.underlying127 I5 (tp:=199) (te:=221) (ts:=9) Tryz.underlying199 Tryz.underlying221 rfl rfl Tryz.underlying9 (by kernel_rfl) (by kernel_rfl)
 have caE:W.cell? ⟨1,0,none⟩=some (.iface 199 (.pointer (some aE))):=by simpa using World.var?_cell (show Tryz.prog.globalNamed "loop.example/g00161/impl.errNoEntry" = some 1 by kernel_rfl) haE 0
 obtain⟨aO,saO,haO,_⟩:=laid_sentinel hL.tail.tail (show Tryz.prog.globalNamed "loop.example/g00161/impl.errOtherTerm" = some 2 by kernel_rfl) (show (Tryz.prog.globals[2]?).map (·.type)=some 127 by kernel_rfl) Tryz.underlying127 I5 (tp:=199) (te:=221) (ts:=9) Tryz.underlying199 Tryz.underlying221 rfl rfl Tryz.underlying9 (by kernel_rfl) (by kernel_rfl)
 have caO:W.cell? ⟨2,0,none⟩=some (.iface 199 (.pointer (some aO))):=by simpa using World.var?_cell (show Tryz.prog.globalNamed "loop.example/g00161/impl.errOtherTerm" = some 2 by kernel_rfl) haO 0
 have hW':=hW;obtain⟨p,q,hA0,hV0,rfl,hfz,hnd⟩:=hW;have hA:DataW.TrodAll enc Tryz.prog W 0 (fun _=>true) true Tryz.f3.params.toList args.toList ds p:=hA0
 have hV:DataW.TrodVars enc Tryz.prog W (fun _=>true) ["loop.example/g00161/impl.errNoLog","loop.example/g00161/impl.errOtherTerm","loop.example/g00161/impl.errNoEntry"] gs q:=hV0
 rw[Tryz.params3]at hA hval;obtain⟨v0,vs0,d0,ds0,p0,q0,hargs,rfl,rfl,h0,r0⟩:=trodAll_cons hA;obtain⟨rfl,rfl,rfl⟩:=trodAll_nil r0;obtain rfl:args=#[v0]:=by cases args;simp_all
 have hVk:=hV;obtain⟨g0,g1,g2,rfl⟩:∃ g0 g1 g2,gs=[g0,g1,g2]:=A8 hV;have k0:=h0;have lt0:∀ x∈p0,x.block<W.heap.size:=by obtain⟨m,hm⟩:=k0;exact DataW.trod_lt m _ _ _ hm
 obtain⟨b1,l1,c1',rfl⟩:=okWide_slice Tryz.underlying22 (hval 0 22 v0 rfl rfl);obtain⟨f0,hf0⟩:=h0;obtain⟨ao2,m2,cap2,e2,hm2,hr2⟩:=E9 hf0;simp[Value.cells]at e2;obtain⟨rfl,rfl,rfl⟩:=e2;clear hA0 hV0 hval0;refine (tX b1 l1 c1' hm2 W hr2 aL aE aO ⟨⟨caL⟩,caE,caO,cH⟩).mono fun e W' ⟨he,bel⟩=>?_
 subst he;exact⟨_,rfl,_,_,_,[],_,_,hW',trodAll_mk1 (shut_bool Tryz.underlying4 _),(trodAll_cons_mk (Below.trod Tryz.laidOut (by kernel_rfl) (of_decide_eq_true (by kernel_rfl)) k0 bel lt0) trodAll_mk0),Below.trodVars Tryz.laidOut bel (by kernel_rfl) hVk,bel.frame _,fun h=>by cases h⟩

theorem B0:Rows.FnVotesSaid:=
 OpenClaim.holds_of_wide 3 Tryz.f3 rfl rfl rfl rfl rfl rfl rfl ⟨rfl,rfl,rfl,rfl,rfl⟩ rfl rfl rfl rfl rfl (by kernel_rfl) Tryz.func3 (by kernel_rfl)
  (of_decide_eq_true (by kernel_rfl)) (by unfold Func.isWrapper;first|(rw[if_pos (by decide +kernel)];kernel_rfl)|(rw[if_neg (by decide +kernel)];exact⟨rfl,rfl⟩))
  (fun os started H enc _=>pN os started H enc)

theorem fnVotes_holds:Rows.FnVotesCardSaid:=
 Claim7.holds_tied_plain_at .later [] [.handle,.sentinel,.sentinel,.sentinel] true Rows.fnVotesCard.stood.harness true
  B0 (fun _ h=>by cases h) (by kernel_rfl) (fun _ h=>by cases h) fnVotes_row_tie rfl ⟨rfl,rfl⟩ (by kernel_rfl) rfl
  (fun f fn hf hfn=>by
   obtain rfl:f=3:=oI ((show Tryz.prog.funcNamed Rows.fnVotesRow.func=some 3 by kernel_rfl).symm.trans hf) |>.symm
   obtain rfl:fn=Tryz.f3:=(oI (Tryz.func3.symm.trans hfn)).symm
   exact⟨by kernel_rfl,fun j t ht=>by
    rw[Tryz.params3]at ht;have hm:t∈[22]:=by simpa using Array.mem_of_getElem? ht
    have hall:([22].all fun u=>!Tryz.prog.wantsStandIn u)=true:=by kernel_rfl
    exact (show Tryz.prog.wantsStandIn t=false by simpa using List.all_eq_true.1 hall t hm)⟩)
  (by kernel_rfl)
#print axioms fnVotes_holds

end Go.Proofs.YtbabakgjkloabaaGreatDoor
