/-
  Helpers: Ordb, Ms4, NewI, Ordq, Ms5, Nd7, Sn5, Nd5.
-/
import Derived.Test.YtbabakgjkloabaaGreatDoorPack11
import Derived.Test.YtbabakgjkloabaaGreatDoorPack1
import Derived.Test.YtbabakgjkloabaaGreatDoorPack7
import Derived.Test.YtbabakgjkloabaaGreatDoorPack8
import Derived.Test.YtbabakgjkloabaaGreatDoorPack2
import Derived.Test.YtbabakgjkloabaaGreatDoorPack10
import Derived.Test.YtbabakgjkloabaaGreatDoorPack9
set_option linter.unusedVariables false
set_option linter.unusedSimpArgs false
namespace Go.Proofs.YtbabakgjkloabaaGreatDoor
section
open Go
section
variable {P:Program} {ops:Array Oper} {Q:Exit->Act->World->Prop}
def asgOk2B (ops:Array Oper):Bool:=ordersOk ops.pop.pop&&(eachAwaited ops.pop&&((ops.all fun o=>o.guard.isNone)&&Nat.blt 1 ops.size))
theorem region_asg2 {id:Nat} {a0:Act} {w0:World} (hm:P.follows .mixedOrders=true) (hok:asgOk2B ops=true) (R:World->World->Prop) (hR0:∀ w,R w w) (hRt:∀ u v w,R u v->R v w->R u w) (l:List (Value->World->Prop)) (hPr:allMono R l) (hll:l.length=ops.size-2) (o8 o9:Oper) (ho8:ops[ops.size-2]?=some o8) (ho9:ops[ops.size-1]?=some o9) (hw8:(o8.after.all fun e=>!Region.binds .any e||decide (e.on<ops.size-2))=true) (hw9:(o9.after.all fun e=>!Region.binds .any e||decide (e.on<ops.size-1))=true) (hw98:waitsB o9 (ops.size-2)=true)
  (hstep:allOk P ops.pop.pop a0 w0.drew R (prAt l) 0 (ops.toList.take (ops.size-2)))
  (Fin:(Nat->Value)->Value->World->Prop)
  (hasg:∀ (ev:Operand->Value) (w':World) (v:Nat->Value),R w0.drew w'->EvOk ops.pop.pop a0 o8 v ev->allPr v w' 0 l->∃ u w'',(execOp ev o8).run P w'=.ok (.value u) w''/\Fin v u w'')
  (hend:∀ v u w'',Fin v u w''->∃ u9,(execOp ((putL v 0 (ops.toList.take (ops.size-2)) a0).put o8.dst u).eval o9).run P w''=.ok (.value u9) w''/\Q .normal (((putL v 0 (ops.toList.take (ops.size-2)) a0).put o8.dst u).put o9.dst u9) w''):(Code.region id ops true).wp P Q a0 w0:=by
 simp only[asgOk2B,Bool.and_eq_true]at hok;obtain⟨hokp,haw,hgn,hblt⟩:=hok;have hN:1<ops.size:=Nat.le_of_ble_eq_true hblt;have hps1:ops.pop.size=ops.size-1:=by simp
 have hps:ops.pop.pop.size=ops.size-2:=by simp;omega
 have hpop1:∀ (i:Nat),i<ops.size-1->ops.pop[i]?=ops[i]?:=fun i hi=>by
  rw[Array.getElem?_pop,if_pos hi]
 have hpop:∀ (i:Nat) (o:Oper),i<ops.size-2->ops[i]?=some o->ops.pop.pop[i]?=some o:=fun i o hi ho=>by
  rw[Array.getElem?_pop,if_pos (by rw[hps1];omega),hpop1 i (by omega)];exact ho
 have hpop':∀ (i:Nat) (o:Oper),ops.pop.pop[i]?=some o->i<ops.size-2/\ops[i]?=some o:=fun i o ho=>by
  have hl:i<ops.pop.pop.size:=(Array.getElem?_eq_some_iff.1 ho).1;rw[hps]at hl;rw[Array.getElem?_pop,if_pos (by rw[hps1];omega),hpop1 i (by omega)]at ho;exact⟨hl,ho⟩
 have hgd:∀ (i:Nat) (o:Oper),ops[i]?=some o->o.guard=none:=fun i o ho=>by
  have:=(Array.all_eq_true'.1 hgn) o (Array.mem_of_getElem? ho);cases h:o.guard with
  | none=>rfl
  | some g=>rw[h]at this;cases this
 have hwt:∀ (o:Oper) y,o.guard=none->Region.wanted o y=true:=fun o y h=>by unfold Region.wanted;rw[h]
 have hearly:∀ (i:Nat) (o:Oper),ops[i]?=some o->∀ j,waitsFor o j->j<i:=fun i o ho j hj=>by
  have hl:i<ops.size:=(Array.getElem?_eq_some_iff.1 ho).1
  by_cases hi9:i=ops.size-1
  ·subst hi9
   rw[ho9]at ho;cases ho;obtain⟨e,he,hb,rfl⟩:=hj;have:=(Array.all_eq_true'.1 hw9) e he;simpa[hb] using this
  ·by_cases hi8:i=ops.size-2
   ·subst hi8
    rw[ho8]at ho;cases ho;obtain⟨e,he,hb,rfl⟩:=hj;have:=(Array.all_eq_true'.1 hw8) e he;simpa[hb] using this
   ·exact (ordersOk_spec hokp (hpop i o (by omega) ho)).1 j hj
 have hstep':∀ (i:Nat) (o:Oper),i<ops.size-2->ops[i]?=some o->OpOk P ops.pop.pop a0 w0.drew R (prAt l) i o:=fun i o hi ho=>by
  have:=allOk_at hstep i o (by
   rw[List.getElem?_take,if_pos hi]
   simpa using ho)
  rw[Nat.zero_add]at this;exact this
 have hlist:∀ k,k<(ops.toList.take (ops.size-2)).length->(ops.toList.take (ops.size-2))[k]?=ops.pop.pop[0+k]?:=fun k hk=>by
  simp at hk;have hk2:k<ops.size-2:=by omega
  rw[List.getElem?_take,if_pos hk2,Nat.zero_add,Array.getElem?_pop,if_pos (by rw[hps1];omega),hpop1 k (by omega)];simp
 have full:∀ (listed:Array Bool),listed.size=ops.size->(∀ j,j<ops.size->listed.getD j false=true)->∀ fuel a w,Q .normal a w->wpAny P .any ops Q fuel listed a w:=by
  intro listed hsz hall fuel a w hq
  have hr:Region.ready .any ops listed=[]:=by
   rw[List.eq_nil_iff_forall_not_mem];intro j hj;obtain⟨h0,o,ho,_⟩:=mem_ready.1 hj;have hl:j<ops.size:=(Array.getElem?_eq_some_iff.1 ho).1;have h1:=hall j hl;have hl2:j<listed.size:=by omega
   simp[Array.getD,hl2]at h0 h1;rw[h0]at h1;cases h1
  cases fuel with
  | zero=>exact⟨hr,hq⟩
  | succ f=>exact⟨fun _=>hq,fun i hi=>by rw[hr]at hi;cases hi⟩
 -- the assign alone is left
 have last1:∀ (listed:Array Bool),listed.size=ops.size->(∀ j,j<ops.size-1->listed.getD j false=true)->listed.getD (ops.size-1) true=false->∀ fuel a w u9,unl ops listed<=fuel->(execOp a.eval o9).run P w=.ok (.value u9) w->Q .normal (a.put o9.dst u9) w->wpAny P .any ops Q fuel listed a w:=by
  intro listed hsz hall h9 fuel a w u9 hu hrun hq
  have hm9:ops.size-1∈Region.ready .any ops listed:=mem_ready.2 ⟨h9,o9,ho9,fun e he hb=>by
   have:=hearly _ o9 ho9 e.on ⟨e,he,hb,rfl⟩
   exact hall e.on this⟩
  cases fuel with
  | zero=>
   exfalso;have h0:(List.range ops.size).filter (fun i=>!listed.getD i true)=[]:=List.eq_nil_of_length_eq_zero (by unfold unl at hu;omega);have:ops.size-1∈(List.range ops.size).filter (fun i=>!listed.getD i true):=List.mem_filter.2 ⟨List.mem_range.2 (by omega),by rw[h9];rfl⟩;rw[h0]at this;cases this
  | succ f=>
   refine⟨fun hr=>(by rw[hr]at hm9;cases hm9),fun i hi=>?_⟩;obtain⟨h0,o,ho,_⟩:=mem_ready.1 hi;have hil:i<ops.size:=(Array.getElem?_eq_some_iff.1 ho).1
   have hi9:i=ops.size-1:=by
    by_cases q:i<ops.size-1
    ·have h1:=hall i q
     have hl2:i<listed.size:=by omega
     simp[Array.getD,hl2]at h0 h1;rw[h0]at h1;cases h1
    ·omega
   subst hi9;rw[ho9]at ho;cases ho;unfold wpOp;simp only[ho9];rw[if_pos (hwt _ _ (hgd _ _ ho9))]
   left
   unfold Oper.wp;rw[hrun];simp only[Oper.upon];refine full _ (by simp[hsz]) (fun j hj=>?_) _ _ _ hq
   by_cases hji:j=ops.size-1
   ·subst hji
    have hl:ops.size-1<listed.size:=by omega
    simp[Array.getD,hl]
   ·rw[getD_set_ne false (fun q=>hji q.symm)]
    exact hall j (by omega)
 have main:∀ (fuel:Nat) (listed:Array Bool) (a:Act) (w:World) (v:Nat->Value),listed.size=ops.size->unl ops listed<=fuel->R w0.drew w->Fr ops.pop.pop a0 (fun j=>listed.getD j false) v a->(∀ j,j<ops.size-2->listed.getD j false=true->prAt l j (v j) w)->listed.getD (ops.size-2) true=false->listed.getD (ops.size-1) true=false->(∀ (i:Nat) (o:Oper) (j:Nat),ops[i]?=some o->listed.getD i false=true->waitsFor o j->listed.getD j false=true)->wpAny P .any ops Q fuel listed a w:=by
  intro fuel
  induction fuel with
  | zero=>
   intro listed a w v hsz hu hR hF hP hL8 hL9 hDC;exfalso;have h0:(List.range ops.size).filter (fun i=>!listed.getD i true)=[]:=List.eq_nil_of_length_eq_zero (by unfold unl at hu;omega);have:ops.size-1∈(List.range ops.size).filter (fun i=>!listed.getD i true):=List.mem_filter.2 ⟨List.mem_range.2 (by omega),by rw[hL9];rfl⟩;rw[h0]at this;cases this
  | succ fuel ih=>
   intro listed a w v hsz hu hR hF hP hL8 hL9 hDC
   have hL8f:listed.getD (ops.size-2) false=false:=by
    have hl:ops.size-2<listed.size:=by omega
    simp[Array.getD,hl]at hL8 ⊢;exact hL8
   have hL9f:listed.getD (ops.size-1) false=false:=by
    have hl:ops.size-1<listed.size:=by omega
    simp[Array.getD,hl]at hL9 ⊢;exact hL9
   have hrall:Region.ready .any ops listed=[]->∀ j,j<ops.size->listed.getD j true=true:=by
    intro hr j
    induction j using Nat.strongRecOn with
    | ind j ih=>
     intro hj;rcases Bool.eq_false_or_eq_true (listed.getD j true) with q|q
     ·exact q
     ·exfalso
      have hoj:ops[j]?=some ops[j]:=by simp[hj]
      have hm:j∈Region.ready .any ops listed:=mem_ready.2 ⟨q,ops[j],hoj,fun e he hb=>by
       have hlt:=hearly j _ hoj e.on ⟨e,he,hb,rfl⟩;have h2:=ih e.on hlt (by omega);have:e.on<listed.size:=by omega
       simp[Array.getD,this]at h2 ⊢
       exact h2⟩
      rw[hr]at hm;cases hm
   refine⟨fun hr=>by
    exfalso;have:=hrall hr (ops.size-1) (by omega);rw[hL9]at this
    exact Bool.noConfusion this,fun i hi=>?_⟩
   obtain⟨h0,o,ho,hall⟩:=mem_ready.1 hi;have hil:i<ops.size:=(Array.getElem?_eq_some_iff.1 ho).1;have hsp:=hearly i o ho
   have h0f:listed.getD i false=false:=by
    have hl:i<listed.size:=by omega
    simp[hl]at h0 ⊢;exact h0
   have hw:∀ j,waitsFor o j->listed.getD j false=true:=fun j ⟨e,he,hb,ej⟩=>by
    subst ej;exact hall e he hb
   by_cases hi9:i=ops.size-1
   ·exfalso
    have ho':o=o9:=by rw[hi9,ho9]at ho;exact (Option.some.inj ho).symm
    have:=hw (ops.size-2) (by rw[ho'];exact waitsB_for hw98);rw[hL8f]at this;cases this
   by_cases hi8:i=ops.size-2
   ·have ho':o=o8:=by rw[hi8,ho8]at ho;exact (Option.some.inj ho).symm
    have hall9:∀ k j,j+1+k=ops.size-1->listed.getD j false=true\/j=ops.size-2:=by
     intro k
     induction k using Nat.strongRecOn with
     | ind k ihk=>
      intro j hjk
      by_cases hj9:j=ops.size-2
      ·exact .inr hj9
      ·left
       obtain⟨i2,o2,ho2,hlt2,hw2⟩:=eachAwaited_spec haw (j:=j) (by rw[hps1];omega);have hi2:i2<ops.pop.size:=(Array.getElem?_eq_some_iff.1 ho2).1;rw[hps1]at hi2;rw[hpop1 i2 hi2]at ho2;rcases ihk (ops.size-1-(i2+1)) (by omega) i2 (by omega) with h1|h1
       ·exact hDC i2 o2 j ho2 h1 hw2
       ·subst h1
        rw[hi8,ho2]at ho;cases ho;exact hw j hw2
    have hall8:∀ j,j<ops.size-2->listed.getD j false=true:=fun j hj=>by
     rcases hall9 (ops.size-1-(j+1)) j (by omega) with h1|h1
     ·exact h1
     ·omega
    have hlen:(ops.toList.take (ops.size-2)).length=ops.size-2:=by simp
    have h1:Fr ops.pop.pop a0 (fun k=>decide (k<0+(ops.toList.take (ops.size-2)).length)) v a:=hF.congr (fun j hj=>by
     rw[hps]at hj;rw[hall8 j hj,hlen]
     simp[hj]) (fun _ _ _=>rfl)
    have h2:=putL_fr hokp v a0 (ops.toList.take (ops.size-2)) 0 a0 hlist ((Fr.init a0 v).congr (fun j _=>by simp) (fun _ _ _=>rfl));have ea:=h1.uniq h2;rw[hlen,Nat.zero_add]at h1
    have hE:EvOk ops.pop.pop a0 o8 v a.eval:=by
     refine⟨fun j d hj hw' hlt=>?_,fun d hn=>?_,fun _=>rfl,fun _=>rfl,fun _=>rfl⟩
     ·cases hop:ops.pop.pop[j]? with
      | none=>rw[hop]at hj;cases hj
      | some p=>
       rw[hop]at hj;have hj1:j<ops.size-2:=(hpop' j p hop).1;have:=h1.done j p d hop (by simp[hj1]) hj hlt;simp[Act.eval,Array.getD_eq_getD_getElem?,this]
     ·have:=h1.rest d fun j p hj _=>noDstB_spec hn j p hj
      simp[Act.eval,Array.getD_eq_getD_getElem?,this]
    obtain⟨u,w'',hr,hf⟩:=hasg a.eval w v hR hE (allPr_of l 0 fun j hj=>by rw[Nat.zero_add];exact hP j (by omega) (hall8 j (by omega)));obtain⟨u9,hr9,hq9⟩:=hend v u w'' hf
    have hfull:∀ j,j<ops.size-1->(listed.setIfInBounds i true).getD j false=true:=fun j hj=>by
     by_cases hji:j=i
     ·subst hji
      have hl:j<listed.size:=by omega
      simp[Array.getD,hl]
     ·rw[getD_set_ne false (fun q=>hji q.symm)]
      exact hall8 j (by omega)
    have h9':(listed.setIfInBounds i true).getD (ops.size-1) true=false:=by
     rw[getD_set_ne true (fun q=>hi9 q)];exact hL9
    have hu':unl ops (listed.setIfInBounds i true)<=fuel:=by
     have:=count_set (l:=List.range ops.size) List.nodup_range (f:=fun k=>!listed.getD k true) (g:=fun k=>!(listed.setIfInBounds i true).getD k true) (i:=i) (List.mem_range.2 hil) (by simp only[h0];rfl) (by
      have hl:i<listed.size:=by omega
      simp[hl]) (fun k hk=>by
      show (!(listed.setIfInBounds i true).getD k true) = !listed.getD k true
      rw[getD_set_ne true (fun q=>hk q.symm)])
     unfold unl at hu ⊢;omega
    unfold wpOp;simp only[ho];rw[if_pos (hwt o _ (hgd i o ho))]
    left
    subst ho';unfold Oper.wp;rw[hr];simp only[Oper.upon];rw[<-ea]at hr9 hq9;exact last1 _ (by simp[hsz]) hfull h9' _ _ _ u9 hu' hr9 hq9
   have hi':i<ops.size-2:=by omega
   have hS:=hstep' i o hi' ho a w v Q hR (fun j p d hj hd hlt hwj=>by
    have:=hF.done j p d hj (hw j hwj) hd hlt
    simp[Act.eval,Array.getD_eq_getD_getElem?,this]) (fun j hj hwj=>hP j (by rw[hps]at hj;exact hj) (hw j hwj)) (fun d hno=>by
    have:=hF.rest d fun j p hj _=>hno j p hj
    simp[Act.eval,Array.getD_eq_getD_getElem?,this])
   rw[if_pos (hwt o _ (hgd i o ho))]at hS
   have next:∀ u w',R w w'->prAt l i u w'->wpAny P .any ops Q fuel (listed.setIfInBounds i true) (a.put o.dst u) w':=fun u w' hR' hu'=>by
    refine ih _ _ _ (fun k=>if k=i then u else v k) (by simp[hsz]) ?_ (hRt _ _ _ hR hR') ?_ ?_ ?_ ?_ ?_
    ·have:=count_set (l:=List.range ops.size) List.nodup_range (f:=fun k=>!listed.getD k true) (g:=fun k=>!(listed.setIfInBounds i true).getD k true) (i:=i) (List.mem_range.2 hil) (by simp only[h0];rfl) (by
      have hl:i<listed.size:=by omega
      simp[hl]) (fun k hk=>by
      show (!(listed.setIfInBounds i true).getD k true) = !listed.getD k true
      rw[getD_set_ne true (fun q=>hk q.symm)])
     unfold unl at hu ⊢;omega
    ·refine (hF.put hokp (hpop i o hi' ho) h0f u).congr (fun j hj=>?_) (fun _ _ _=>rfl)
     by_cases hji:j=i
     ·subst hji
      have hl:j<listed.size:=by omega
      simp[hl]
     ·simp only[hji,if_false]
      rw[getD_set_ne false (fun q=>hji q.symm)]
    ·intro j hj hdn
     by_cases hji:j=i
     ·subst hji;simp only[if_true];exact hu'
     ·simp only[hji,if_false]
      rw[getD_set_ne false (fun q=>hji q.symm)]at hdn;exact allMono_at hPr _ _ _ _ (hP j hj hdn) hR'
    ·rw[getD_set_ne true (fun q=>hi8 q)]
     exact hL8
    ·rw[getD_set_ne true (fun q=>hi9 q)]
     exact hL9
    ·intro i2 o2 j ho2 h2 hw2
     by_cases hii:i2=i
     ·subst hii
      rw[ho]at ho2;cases ho2;have h3:=hw j hw2;have hne:i2≠j:=fun q=>by have:=hsp j hw2;omega
      rw[getD_set_ne false hne];exact h3
     ·rw[getD_set_ne false (fun q=>hii q.symm)]at h2
      have h3:=hDC i2 o2 j ho2 h2 hw2
      by_cases hji:j=i
      ·subst hji;rw[h0f]at h3;cases h3
      ·rw[getD_set_ne false (fun q=>hji q.symm)]
       exact h3
   unfold wpOp;simp only[ho];rw[if_pos (hwt o _ (hgd i o ho))];exact .inl (Oper.wp_mono (fun a' w' ⟨u,e,h1,h2⟩=>by rw[e];exact next u w' h1 h2) hS)
 refine wp_region_any hm ?_;refine main ops.size _ a0 _ (fun _=>undef) (by simp) ?_ (hR0 _) ?_ ?_ ?_ ?_ ?_
 ·unfold unl
  exact Nat.le_trans (List.length_filter_le _ _) (by simp)
 ·exact (Fr.init a0 _).congr (fun j hj=>by
   rw[hps]at hj;have:j<ops.size:=by omega
   simp[this]) (fun _ _ _=>rfl)
 ·intro j hj h
  have:j<ops.size:=by omega
  simp[this]at h
 ·have:ops.size-2<ops.size:=by omega
  simp[Array.getD,this]
 ·have:ops.size-1<ops.size:=by omega
  simp[Array.getD,this]
 ·intro i o j hi h
  have:=(Array.getElem?_eq_some_iff.1 hi).1;simp[this]at h
end
end
section
open Go Go.RowKit
attribute [local go_sem ↓] Go.wp_at_zero Go.wp_at_succ
theorem GOwn.lit (w:World) (t:TypeId) (size n:Nat) (cs:List Value) (hm:n<=maxLen) (h:cs.length=n*size):GOwn (w.alloc (.cells cs.toArray t)) w.heap.size t size (some ⟨w.heap.size,0,none⟩) n n (lf cs):=by
 have e:gCells (lf cs) (n*size)=cs.toArray.toList:=by
  rw[<-h];refine List.ext_getElem? (fun j=>?_)
  by_cases hj:j<cs.length
  ·rw[gCells_at hj]
   simp[lf,List.getD_eq_getElem?_getD,hj]
  ·rw[List.getElem?_eq_none (by rw[gCells_len];omega),List.getElem?_eq_none (by simp;omega)]
 unfold GOwn;rw[e];exact World.ownsRow_lit w cs.toArray n nl hm (by simpa using h)
theorem netV_one (w:World) (m:Ms) (hm:m.ents=[]):NetV w.heap.size [m] (.slice (some ⟨w.heap.size,0,none⟩) 1 1) (w.alloc (.cells (msL m none 0).toArray 29)):=
 ⟨some ⟨w.heap.size,0,none⟩,1,[⟨m,none,0⟩],rfl,rfl,by
  have e:nlc [⟨m,none,0⟩]=msL m none 0:=rfl
  exact⟨by rw[e];exact GOwn.lit w 29 9 1 (msL m none 0) (by decide) (by rfl),fun q hq=>by
   simp at hq;subst hq
   show GOwn _ _ _ _ _ m.ents.length _ _
   rw[hm]
   exact GOwn.nil _ _ _ _ _⟩⟩
def appdM (n:Nd) (m:Ms) (i:Int) (y:Bool):Ms:=⟨4,n.term,n.id,m.frm,i,0,[],0,y⟩
end
section
open Go.RowKit
attribute [local go_sem ↓] Go.wp_at_zero Go.wp_at_succ
def newT (n:Nat) (T:Nat->Int) (i t:Int):Bool:=decide (lastT n T<t)||(decide (t=lastT n T)&&decide ((n:Int)<=i))
end
section
open Go
section
variable {P:Program} {ops:Array Oper}
theorem EvOk.kept {a0:Act} {o:Oper} {v:Nat->Value} {ev:Operand->Value} {Pr:Nat->Value->World->Prop} {w:World} {ks:List Nat} (E:EvOk ops a0 o v ev) (pr:∀ j,j∈ks->waitsB o j=true->Pr j (v j) w) (j d:Nat)
  (h1:(ops[j]?).bind (·.dst)=some d:=by rfl) (h2:waitsB o j=true:=by kernel_rfl) (h3:Nat.blt d a0.tmps.size=true:=by kernel_rfl) (h4:ks.contains j=true:=by kernel_rfl):Pr j (ev (.tmp d)) w:=by
 rw[E.at_ j d h1 h2 (Nat.le_of_ble_eq_true h3)];exact pr j (by simpa using h4) h2
theorem LateOk.get {a0:Act} {w0:World} {Post:World->Prop} {Pr:Nat->Value->World->Prop} {ks:List Nat} {i:Nat} {o:Oper} (u:Value) (hp:∀ w,Pr i u w)
  (h:∀ (ev:Operand->Value) (w:World) (v:Nat->Value),(RB w0 w\/Post w)->EvOk ops a0 o v ev->(∀ j,j∈ks->waitsB o j=true->Pr j (v j) w)->(execOp ev o).run P w=.ok (.value u) w):LateOk P ops a0 w0 Post Pr ks i o:=
 fun ev w v hR E pr=>⟨u,w,h ev w v hR E pr,RB.refl _,hp w⟩
def allLate (P:Program) (ops:Array Oper) (a0:Act) (w0:World) (Post:World->Prop) (Pr:Nat->Value->World->Prop) (ks:List Nat) (kx:Nat) (early:List Nat):Nat->List Oper->Prop
 | _,[]=>True
 | i,o :: r=>((i==kx||early.contains i)=true\/LateOk P ops a0 w0 Post Pr ks i o)/\allLate P ops a0 w0 Post Pr ks kx early (i+1) r
theorem allLate_at {a0:Act} {w0:World} {Post:World->Prop} {Pr:Nat->Value->World->Prop} {ks:List Nat} {kx:Nat} {early:List Nat}:∀ (l:List Oper) (k:Nat),allLate P ops a0 w0 Post Pr ks kx early k l->∀ i o,l[i]?=some o->k+i≠kx->k+i∉early->LateOk P ops a0 w0 Post Pr ks (k+i) o
 | [],_,_,i,o,h,_,_=>by simp at h
 | p :: r,k,h,0,o,ho,h1,h2=>by
  obtain⟨h,_⟩:=h;obtain rfl:p=o:=by simpa using ho
  rcases h with h|h
  ·simp only[Bool.or_eq_true,beq_iff_eq,List.contains_iff_mem]at h
   rcases h with h|h
   ·exact absurd h h1
   ·exact absurd h h2
  ·exact h
 | p :: r,k,h,i+1,o,ho,h1,h2=>by
  have e:k+(i+1)=k+1+i:=by omega
  rw[e]at h1 h2 ⊢;exact allLate_at r (k+1) h.2 i o (by simpa using ho) h1 h2
theorem lates {a0:Act} {w0:World} {Post:World->Prop} {Pr:Nat->Value->World->Prop} {ks:List Nat} {kx:Nat} {early:List Nat} (h:allLate P ops a0 w0 Post Pr ks kx early 0 ops.toList):∀ i,i<ops.size->i≠kx->i∉early->∀ o,ops[i]?=some o->LateOk P ops a0 w0 Post Pr ks i o:=fun i _ h1 h2 o ho=>by
 have:=allLate_at ops.toList 0 h i o (by simpa using ho) (by simpa using h1) (by simpa using h2);simpa using this
theorem late_cons {a0:Act} {w0:World} {Post:World->Prop} {Pr:Nat->Value->World->Prop} {ks:List Nat} {kx:Nat} {early:List Nat} {i:Nat} {o:Oper} {r:List Oper} (h:LateOk P ops a0 w0 Post Pr ks i o) (hr:allLate P ops a0 w0 Post Pr ks kx early (i+1) r):allLate P ops a0 w0 Post Pr ks kx early i (o :: r):=⟨.inr h,hr⟩
theorem late_skip {a0:Act} {w0:World} {Post:World->Prop} {Pr:Nat->Value->World->Prop} {ks:List Nat} {kx:Nat} {early:List Nat} {i:Nat} {o:Oper} {r:List Oper} (hs:(i==kx||early.contains i)=true) (hr:allLate P ops a0 w0 Post Pr ks kx early (i+1) r):allLate P ops a0 w0 Post Pr ks kx early i (o :: r):=⟨.inl hs,hr⟩
end
end
section
open Go Go.RowKit
attribute [local go_sem ↓] Go.wp_at_zero Go.wp_at_succ
def vyB (n:Nd) (m:Ms):Bool:=(m.term==n.term)&&((n.vote == -1||n.vote==m.frm)&&newT n.log.length (tOf n.log) m.index m.lterm)
def vyN (n:Nd) (m:Ms):Nd:=if vyB n m then ⟨n.id,n.peers,n.term,m.frm,n.log,n.role,n.commit,n.votes,n.next,n.mat⟩ else n
def votedM (n:Nd) (to:Int) (y:Bool):Ms:=⟨2,n.term,n.id,to,0,0,[],0,y⟩
theorem NetV.rb {b:Nat} {ms:List Ms} (v:Value) (w w':World) (h:NetV b ms v w) (hR:RB w w'):NetV b ms v w':=by
 obtain⟨ao,cap,l,e1,e2,h⟩:=h;exact⟨ao,cap,l,e1,e2,h.next hR⟩
theorem NetV.from {b b':Nat} {ms:List Ms} {v:Value} {w:World} (h:NetV b ms v w) (hb:b'<=b):NetV b' ms v w:=by
 obtain⟨ao,cap,l,e1,e2,h⟩:=h;exact⟨ao,cap,l,e1,e2,h.o.from hb,fun q hq=>(h.e q hq).from hb⟩
theorem NetV.gr {b:Nat} {ms:List Ms} {v:Value} {w w':World} {x:Nat} (h:NetV b ms v w) (hg:w.grownBy w' (some x)) (hx:Typed w x 27):NetV b ms v w':=by
 obtain⟨ao,cap,l,e1,e2,h⟩:=h;exact⟨ao,cap,l,e1,e2,h.o.gr hg (fun y e=>by cases e;exact hx) (by decide),fun q hq=>(h.e q hq).gr hg (fun y e=>by cases e;exact hx) (by decide)⟩
def rstN (n:Nd):Nd:=if nodeB n then ⟨n.id,n.peers,n.term,n.vote,n.log,1,0,[],[],[]⟩ else nd0
set_option maxRecDepth 100000 in
set_option maxHeartbeats 4000000 in
theorem restart_any (n:Nd) (s:NdS) (hz:NdZ n s) (aL aE aO:Addr) (w:World) (hG:GlV w aL aE aO) (hM:NdM w n s):Calls Tryz.prog 18 #[ndV n s] w fun e w'=>∃ s',e=.returned (ndV (rstN n) s')/\NdO w' w.heap.size (rstN n) s'/\RB w w':=by
 have hb:=RB.trans _ _ _ (RB.alloc w (.cells (ndL n s).toArray 27)) (RB.alloc _ (.cells (ndL nd0 ns0).toArray 27));have vA:NdB _ w.heap.size n s:=(ndB_new w n s).next (RB.alloc _ (.cells (ndL nd0 ns0).toArray 27));have vR:=ndB_new (w.alloc (.cells (ndL n s).toArray 27)) nd0 ns0;rw[World.size_alloc]at vR;replace hM:=hM.next hb;replace hG:=hG.next hb;go_enter Tryz.func18,Tryz.ntmps18
 go_wp2_with fail
 generalize ((w.alloc _).alloc _)=W at hb vA vR hM hG ⊢;refine (nodeOk_any n s hz aL aE aO _ hG hM).mono ?_;rintro e w1 ⟨rfl,hb1⟩;replace hb:=RB.trans _ _ _ hb hb1;replace vA:NdB w1 w.heap.size n s:=VHas.next vA hb1;replace vR:NdB w1 (w.heap.size+1) nd0 ns0:=VHas.next vR hb1;replace hM:=hM.next hb1;clear hG hb1;rcases Bool.eq_false_or_eq_true (nodeB n) with hB|hB
 rotate_left
 ·rw[hB]
  have e0:rstN n=nd0:=by simp[rstN,hB]
  go_wp2_with (first|(with_reducible refine wB 27 (.tmp 2) (.tmp 7) (w.heap.size+1) (ndL (nd0) (ns0)) vR ?_;intro W9 hv9 hg9)|fail)
  obtain⟨q0,q1,q2,q3,q4,q5,q6,q7,q8,q9⟩:=VHas.c10 hv9 (by simp);simp[lf]at q0 q1 q2 q3 q4 q5 q6 q7 q8 q9;exact bodyPost_ret (v:=ndV nd0 ns0) (by simp[results,Tryz.results18,go_sem,q0,q1,q2,q3,q4,q5,q6,q7,q8,q9]) rfl ⟨ns0,by rw[e0],by rw[e0];exact ndO_zero _ _,gr_rb hb hg9 (by omega)⟩
 rw[hB];have e0:rstN n=⟨n.id,n.peers,n.term,n.vote,n.log,1,0,[],[],[]⟩:=by simp[rstN,hB]
 have HE0:Hid (rstN n=⟨n.id,n.peers,n.term,n.vote,n.log,1,0,[],[],[]⟩):=e0;clear e0 hB;obtain⟨d0,d1,d2,d3,d4,d5,d6,d7,d8,d9⟩:=cN vA
 go_wp2_with fail
 clear d0 d1 d2 d3 d4 d5 d6 d7 d8 d9;refine (copyOfNode_any n s hz _ hM).mono ?_;rintro e w2 ⟨s2,rfl,hO,hb2⟩;have hsz:=hb.size;replace hO:=hO.from hsz
 replace hb:=RB.trans _ _ _ hb hb2;replace vR:NdB w2 (w.heap.size+1) nd0 ns0:=VHas.next vR hb2;clear vA hM hb2
 go_wp2_with fail
 refine (following_any n s2 _).mono ?_;rintro e w3 ⟨rfl,hb3⟩;replace hO:=hO.next hb3;replace hb:=RB.trans _ _ _ hb hb3;replace vR:NdB w3 (w.heap.size+1) nd0 ns0:=VHas.next vR hb3;clear hb3;have hal:=RB.alloc w3 (.cells (ndL (folN n) (folS s2)).toArray 27);have vO:=ndB_new w3 (folN n) (folS s2);replace hO:=hO.next hal;replace hb:=RB.trans _ _ _ hb hal;have hlt3:w.heap.size+1<w3.heap.size:=vR.lt;replace vR:NdB _ (w.heap.size+1) nd0 ns0:=VHas.next vR hal;clear hal
 go_wp2_with (first|(with_reducible refine wN 2 (.tmp 11) (.const (.int .i64 0)) (w3.heap.size) 6 (.int .i64 0) (⟨n.id,n.peers,n.term,n.vote,n.log,1,0,[],[],[]⟩) (folS s2) vO ?_;intro W4 vO4 hg4;have hT4:=ndT vO;have vR4:NdB W4 (w.heap.size+1) nd0 ns0:=VHas.grown vR hg4 (fun e=>by have:=Option.some.inj e;omega);obtain⟨d0,d1,d2,d3,d4,d5,d6,d7,d8,d9⟩:=cN vO4)|(with_reducible refine wB 27 (.tmp 2) (.tmp 12) (w.heap.size+1) (ndL (⟨n.id,n.peers,n.term,n.vote,n.log,1,0,[],[],[]⟩) (folS s2)) vR4 ?_;intro W9 hv9 hg9)|fail)
 obtain⟨q0,q1,q2,q3,q4,q5,q6,q7,q8,q9⟩:=VHas.c10 hv9 (by simp);simp[lf]at q0 q1 q2 q3 q4 q5 q6 q7 q8 q9;have hO4:=(hO.gr hg4 hT4 (by decide) (by decide)).gr hg9 (ndT vR4) (by decide) (by decide);have hb4:=gr_rb (gr_rb hb hg4 (by omega)) hg9 (by omega);exact bodyPost_ret (v:=ndV ⟨n.id,n.peers,n.term,n.vote,n.log,1,0,[],[],[]⟩ (folS s2)) (by simp[results,Tryz.results18,go_sem,q0,q1,q2,q3,q4,q5,q6,q7,q8,q9]) rfl ⟨folS s2,by rw[HE0.out],by rw[HE0.out];exact hO4.fol rfl rfl rfl rfl,hb4⟩
def nxtI (n:Nd) (k:Nat):Nat:=(iOf n.next k-1).toNat
def beatL (n:Nd):List Ms:=othL n.id (fun k=>appM n (nxtI n k) k) n.peers.toNat
def beatB (n:Nd):List Ms:=if nodeB n&&(n.role==3) then beatL n else []
theorem nodeB_peers {n:Nd} (h:nodeB n=true):1<=n.peers/\n.peers<=5/\0<=n.id/\n.id<n.peers:=by
 simp[nodeB,srvB]at h;omega
theorem nodeB_reach {n:Nd} (h:nodeB n=true) (hr:n.role=3):(n.next.length:Int)=n.peers/\(n.mat.length:Int)=n.peers/\∀ i,i<n.next.length->1<=iOf n.next i/\iOf n.next i<=n.log.length+1/\0<=iOf n.mat i/\iOf n.mat i<=n.log.length:=by
 simp only[nodeB,roleB,hr,reachB,reachAt,if_true,Bool.and_eq_true,decide_eq_true_eq,List.all_eq_true,List.mem_range]at h;obtain⟨_,_,_,_,_,_,_,⟨h1,h2⟩,h3⟩:=h;exact⟨h1,h2,h3⟩
theorem toBeat_any (n:Nd) (s:NdS) (hz:NdZ n s) (hp:0<=n.peers/\n.peers<=5) (hl:(n.next.length:Int)=n.peers) (hx:∀ i,i<n.next.length->1<=iOf n.next i/\iOf n.next i<=n.log.length+1) (w:World) (hM:NdM w n s):Calls Tryz.prog 51 #[ndV n s,.func (.func 55) #[] #[]] w fun e w'=>∃ v,e=.returned v/\NetV w.heap.size (beatL n) v w'/\RB w w':=
 toOthers_any n s 55 (fun k=>appM n (nxtI n k) k) n.peers.toNat (by omega) (by omega) w (fun _ _=>by kernel_rfl) (fun W k hk hR=>by
  have hk2:k<n.next.length:=by omega
  have hx2:=hx k hk2;refine (messageOfAppend_any n s hz k (nxtI n k) hk2 (by unfold nxtI;omega) (by unfold nxtI;omega) W (hM.next hR)).mono ?_;rintro e w' ⟨a,c,rfl,ho,hb⟩
  exact⟨a,c,rfl,ho.from hR.size,hb⟩)
set_option maxRecDepth 100000 in
set_option maxHeartbeats 4000000 in
theorem beat_any (n:Nd) (s:NdS) (hz:NdZ n s) (aL aE aO:Addr) (w:World) (hG:GlV w aL aE aO) (hM:NdM w n s):Calls Tryz.prog 16 #[ndV n s] w fun e w'=>∃ v,e=.returned v/\NetV w.heap.size (beatB n) v w'/\RB w w':=by
 have hb:=RB.alloc w (.cells (ndL n s).toArray 27);have vA:=ndB_new w n s;replace hM:=hM.next hb;replace hG:=hG.next hb;have nv0:∀ W,NetV w.heap.size [] (.slice none 0 0) W:=fun W=>⟨none,0,[],rfl,rfl,NetO.nil _ _⟩
 go_enter Tryz.func16,Tryz.ntmps16
 go_wp2_with fail
 generalize (w.alloc _)=W at hb vA hM hG ⊢;refine (nodeOk_any n s hz aL aE aO _ hG hM).mono ?_;rintro e w1 ⟨rfl,hb1⟩;replace hb:=RB.trans _ _ _ hb hb1;replace vA:NdB w1 w.heap.size n s:=VHas.next vA hb1;replace hM:=hM.next hb1;clear hG hb1;rcases Bool.eq_false_or_eq_true (nodeB n) with hB|hB
 rotate_left
 ·rw[hB]
  have e0:beatB n=[]:=by simp[beatB,hB]
  go_wp2;go_ret;exact⟨_,rfl,by rw[e0];exact nv0 _,hb⟩
 rw[hB];obtain⟨d0,d1,d2,d3,d4,d5,d6,d7,d8,d9⟩:=cN vA
 by_cases hr:n.role=3
 rotate_left
 ·have e0:beatB n=[]:=by simp[beatB,hr]
  have hr':(n.role != 3)=true:=by simp[hr]
  clear hr;go_wp2;go_ret;exact⟨_,rfl,by rw[e0];exact nv0 _,hb⟩
 have e0:beatB n=beatL n:=by simp[beatB,hB,hr]
 have hr':(n.role != 3)=false:=by simp[hr]
 have hpe:=nodeB_peers hB;obtain⟨hl1,_,hx1⟩:=nodeB_reach hB hr;have HE0:Hid (beatB n=beatL n):=e0;have HB:=fun W (h:RB w1 W)=>toBeat_any n s hz (by omega) hl1 (fun i hi=>⟨(hx1 i hi).1,(hx1 i hi).2.1⟩) W (hM.next h)
 clear hr e0 hpe hl1 hx1
 go_wp2_with fail
 refine (HB _ (RB.refl _)).mono ?_;rintro e w2 ⟨v,rfl,hn,hb2⟩;go_wp2;go_ret;exact⟨_,rfl,by rw[HE0.out];exact NetV.from hn hb.size,RB.trans _ _ _ hb hb2⟩
theorem exec_both {o:Oper} {ev:Operand->Value} {x y z:Operand} {ao:Option Addr} {l:List En} {c i j:Nat} {w:World} (ho:o.op=.slice 24 x (some y) (some z) none) (hx:ev x=.slice ao l.length c) (hy:ev y=.int .i64 (i:Int)) (hz:ev z=.int .i64 (j:Int)) (hij:i<=j) (hi:j<=l.length) (hn:l.length<=c) (hr:LRow w 47 ao (elc l)):
  ∃ ao' c',(execOp ev o).run Tryz.prog w=.ok (.value (.slice ao' ((l.drop i).take (j-i)).length c')) w/\((l.drop i).take (j-i)).length<=c'/\LRow w 47 ao' (elc ((l.drop i).take (j-i))):=by
 have h1:(i:Int)<=(c:Int):=by omega
 have h2:(0:Int)<=(i:Int):=by omega
 have h3:(i:Int).toNat=i:=by omega
 have h4:(j:Int)<=(c:Int):=by omega
 have h5:(0:Int)<=(j:Int):=by omega
 have h6:(j:Int).toNat=j:=by omega
 have h7:(i:Int)<=(j:Int):=by omega
 have hl:((l.drop i).take (j-i)).length=j-i:=by simp;omega
 rw[hl];cases ao with
 | none=>
  refine⟨none,c-i,?_,by omega,fun hc=>?_⟩
  ·unfold execOp
   simp[ho,hx,hy,hz,go_sem,h1,h2,h3,h4,h5,h6,h7]
  ·obtain⟨b,o',e,_⟩:=hr (fun q=>hc (by rw[elc_take,elc_drop,q];simp))
   cases e
 | some a=>
  refine⟨if c=i then some a else some (a.add (i*2)),c-i,?_,by omega,fun hc=>?_⟩
  ·unfold execOp
   simp[ho,hx,hy,hz,go_sem,h1,h2,h3,h4,h5,h6,h7]
  ·have hlt:i<l.length:=by
    rcases Nat.lt_or_ge i l.length with q|q
    ·exact q
    ·exfalso
     apply hc;rw[List.drop_eq_nil_of_le q,List.take_nil];rfl
   obtain⟨b,o',e,_⟩:=hr (fun q=>hc (by rw[elc_take,elc_drop,q];simp));cases e;rw[if_neg (by omega),Addr.add_mid,elc_take,elc_drop];refine LRow.take (LRow.drop hr (i*2)) _ ?_;rw[<-elc_drop,<-elc_take];exact hc
theorem both_ok {o:Oper} {ev:Operand->Value} {x y z:Operand} {ao:Option Addr} {l:List En} {c i j:Nat} {w:World} (ho:o.op=.slice 24 x (some y) (some z) none) (hx:ev x=.slice ao l.length c) (hy:ev y=.int .i64 (i:Int)) (hz:ev z=.int .i64 (j:Int)) (hij:i<=j) (hi:j<=l.length) (hn:l.length<=c) (hr:LRow w 47 ao (elc l)):
  ∃ u w',(execOp ev o).run Tryz.prog w=.ok (.value u) w'/\RB w w'/\SlE ((l.drop i).take (j-i)) u w':=by
 obtain⟨ao',c',h0,h1,h2⟩:=exec_both ho hx hy hz hij hi hn hr;exact⟨_,w,h0,RB.refl _,ao',c',rfl,h1,h2⟩
theorem ex_mono {r:Result Next} {A B:Value->World->Prop} (h:∃ u w',r=.ok (.value u) w'/\A u w') (k:∀ u w',A u w'->B u w'):∃ u w',r=.ok (.value u) w'/\B u w':=by
 obtain⟨u,w',e,h⟩:=h;exact⟨u,w',e,k u w' h⟩
theorem cat_ok {o:Oper} {ev:Operand->Value} {x y:Operand} {base:Nat} {l:List En} {w:World} (ho:o.op=.call { callee:=.builtin .append,args:=#[x,y],argTypes:=#[24,24] }) (hx:LE base 47 (ev x) w) (hy:SlE l (ev y) w) (hl:l.length<=1048576) (hb:base<=w.heap.size):
  ∃ u w',(execOp ev o).run Tryz.prog w=.ok (.value u) w'/\RB w w'/\∃ a c,u=.slice a l.length c/\OwE w' base a c l:=by
 obtain⟨g,e1,_,_,h0⟩:=hx;obtain⟨ao,c,e2,_,hr⟩:=hy
 obtain⟨ao',cap',w',hrun,hown,hrb⟩:=run_cat0 Tryz.elEnQ w o.type base g (fun j=>if j<l.length*2 then lf (elc l) j else .bool false) (h0 2 _) ao l.length c (fun hm=>by
  obtain⟨b,o',e',hc⟩:=hr.g (elc_len l) hm
  exact⟨b,o',e',fun j hj=>by
   rw[hc j hj]
   simp only[if_pos hj]⟩) (fun j=>by
  by_cases q:j<l.length*2
  ·simp only[if_pos q];exact elc_one l j q
  ·simp only[if_neg q];rfl) hl hb
 exact⟨_,w',exec_append ho e1 e2 hrun,hrb,ao',cap',rfl,GOwn.congr hown (fun j hj=>if_pos hj)⟩
def MgV (base:Nat) (m:Ms) (v:Value) (w:World):Prop:=∃ a c,v=msV m a c/\OwE w base a c m.ents
theorem MgV.rb {base:Nat} {m:Ms} (v:Value) (w w':World) (h:MgV base m v w) (hb:RB w w'):MgV base m v w':=by
 obtain⟨a,c,e,h⟩:=h;exact⟨a,c,e,h.next hb⟩
def OwV (base:Nat) (l:List En) (v:Value) (w:World):Prop:=∃ a c,v=.slice a l.length c/\OwE w base a c l
theorem OwV.rb {base:Nat} {l:List En} (v:Value) (w w':World) (h:OwV base l v w) (hb:RB w w'):OwV base l v w':=by
 obtain⟨a,c,e,h⟩:=h;exact⟨a,c,e,h.next hb⟩
def Mg1 (base:Nat) (m:Ms) (v:Value) (w:World):Prop:=∃ B a c,v=.slice (some ⟨B,0,none⟩) 1 1/\MsB w B m a c/\OwE w base a c m.ents
theorem Mg1.rb {base:Nat} {m:Ms} (v:Value) (w w':World) (h:Mg1 base m v w) (hb:RB w w'):Mg1 base m v w':=by
 obtain⟨B,a,c,e,h1,h2⟩:=h;exact⟨B,a,c,e,h1.next hb,h2.next hb⟩
theorem app_ok {o:Oper} {ev:Operand->Value} {x y:Operand} {base:Nat} {l:List Mq} {ao:Option Addr} {cap:Nat} {m:Ms} {w:World} (ho:o.op=.call { callee:=.builtin .append,args:=#[x,y],argTypes:=#[32,32] }) (hx:ev x=.slice ao l.length cap) (hN:NetO w base ao cap l) (hy:Mg1 base m (ev y) w) (hl:l.length<=1000) (hb:base<=w.heap.size):
  ∃ u w',(execOp ev o).run Tryz.prog w=.ok (.value u) w'/\NetV base (l.map (·.m)++[m]) u w'/\w.grownBy w' (Value.slice ao l.length cap).ownBlock:=by
 obtain⟨B,a,c,e2,hB,hE⟩:=hy
 have hgr:GRow w (some ⟨B,0,none⟩) (1*9) (fun j=>if j<9 then lf (msL m a c) j else .bool false):=fun _=>⟨B,0,rfl,fun j hj=>by
  have hj9:j<9:=by omega
  rw[Nat.zero_add,hB.cell hj9]
  simp only[if_pos hj9]⟩
 obtain⟨ao',cap',w',hrun,hown,hg,_⟩:=run_app Tryz.elM w o.type base _ ao l.length cap hN.o (some ⟨B,0,none⟩) 1 1 _ hgr (fun j=>by
  by_cases q:j<9
  ·simp only[if_pos q];exact msL_one ⟨m,a,c⟩ j q
  ·simp only[if_neg q];rfl) (by omega) hb
 refine⟨_,w',exec_append ho hx e2 hrun,⟨ao',cap',l++[⟨m,a,c⟩],by simp,by simp,?_⟩,hg⟩
 exact hN.more hE hg (hown.congr (fun j hj=>by
  by_cases q:j<l.length*9
  ·rw[if_pos q,if_pos q]
  ·rw[if_neg q,if_neg q,if_pos (by omega)]))
theorem l1Min_rb (a b:Int) (w:World):Calls Tryz.prog 83 #[.int .i64 a,.int .i64 b] w fun e w'=>e=.returned (.int .i64 (min a b))/\RB w w':=by
 by_cases h:a<b
 ·go_enter Tryz.func83,Tryz.ntmps83
  go_wp2;go_ret;exact⟨by rw[Int.min_eq_left (by omega)];rfl,RB.refl _⟩
 ·go_enter Tryz.func83,Tryz.ntmps83
  go_wp2;go_ret;exact⟨by rw[Int.min_eq_right (by omega)];rfl,RB.refl _⟩
theorem l1Max_rb (a b:Int) (w:World):Calls Tryz.prog 69 #[.int .i64 a,.int .i64 b] w fun e w'=>e=.returned (.int .i64 (max a b))/\RB w w':=by
 by_cases h:b<a
 ·go_enter Tryz.func69,Tryz.ntmps69
  go_wp2;go_ret;exact⟨by rw[Int.max_eq_left (by omega)];rfl,RB.refl _⟩
 ·go_enter Tryz.func69,Tryz.ntmps69
  go_wp2;go_ret;exact⟨by rw[Int.max_eq_right (by omega)];rfl,RB.refl _⟩
theorem lastL_zero {l:List En}:lastL (l.take 0)=0:=by simp[lastL,lastT]
theorem lastL_take {l:List En} {i:Nat} (h:i+1<=l.length):lastL (l.take (i+1))=tOf l i:=by
 have h1:(l.take (i+1)).length=i+1:=by simp;omega
 simp only[lastL,lastT,h1];rw[if_neg (by omega)];simp[tOf]
theorem take_five {l:List En} {i en:Nat} (hi:i<=l.length) (h:(en:Int)=min (l.length:Int) ((i:Int)+5)):(l.drop i).take (en-i)=(l.drop i).take 5:=by
 by_cases q:i+5<=l.length
 ·have:en-i=5:=by omega
  rw[this]
 ·rw[List.take_of_length_le (by simp;omega),List.take_of_length_le (by simp;omega)]
set_option maxRecDepth 100000 in
set_option maxHeartbeats 16000000 in
theorem l11Beat_any (n:Nd) (s:NdS) (hz:NdZ n s) (hp:1<=n.peers/\n.peers<=5) (hx:n.role=3->(n.next.length:Int)=n.peers/\∀ i,i<n.next.length->1<=iOf n.next i/\iOf n.next i<=n.log.length+1) (w:World) (hM:NdM w n s):Calls Tryz.prog 56 #[ndV n s] w fun e w'=>∃ v,e=.returned v/\NetV w.heap.size (if n.role=3 then beatL n else []) v w'/\RB w w':=by
 have hzl:=hz.l;have hlc:=hz.lc;clear hz;obtain⟨lo,lc,vo,vc,no,nc,mo,mc⟩:=s;simp only at hlc;have hb:=RB.alloc w (.cells (ndL n ⟨lo,lc,vo,vc,no,nc,mo,mc⟩).toArray 27);have vA:NdB _ w.heap.size n ⟨lo,lc,vo,vc,no,nc,mo,mc⟩:=ndB_new w n ⟨lo,lc,vo,vc,no,nc,mo,mc⟩;have HM:Hid (∀ W,RB w W->NdM W n ⟨lo,lc,vo,vc,no,nc,mo,mc⟩):=fun W h=>hM.next h
 go_enter Tryz.func56,Tryz.ntmps56;refine wp_seq_h' fun K0 hK0=>?_
 go_wp2;refine hK0.out _ _ ?_;clear hK0;generalize (w.alloc _)=W at hb vA ⊢;have hal:=RB.alloc W (.cells #[] 29);have hE:GOwn (W.alloc (.cells #[] 29)) W.heap.size 29 9 (some ⟨W.heap.size,0,none⟩) 0 0 (lf (nlc [])):=GOwn.empty W 29 9 _;have hN0:NetV w.heap.size [] (.slice (some ⟨W.heap.size,0,none⟩) 0 0) (W.alloc (.cells #[] 29)):=⟨_,_,[],rfl,rfl,hE.from hb.size,fun q hq=>by cases hq⟩
 replace hb:=RB.trans _ _ _ hb hal;replace vA:NdB (W.alloc (.cells #[] 29)) w.heap.size n ⟨lo,lc,vo,vc,no,nc,mo,mc⟩:=VHas.next vA hal;obtain⟨c0,c1,c2,c3,c4,c5,c6,c7,c8,c9⟩:=cN vA;clear hal hE
 by_cases h3:n.role=3
 rotate_left
 ·have g3:(n.role != 3)=true:=by simp[h3]
  rw[if_neg h3];clear h3 hx;go_wp2;go_ret;exact⟨_,rfl,hN0,hb⟩
 have g3:(n.role != 3)=false:=by simp[h3]
 rw[if_pos h3];obtain⟨hnl,hnx⟩:=hx h3;clear h3 hx;replace hnl:Hid _:=hnl;obtain⟨P,hP⟩:∃ P:Nat,n.peers=(P:Int):=⟨n.peers.toNat,by omega⟩
 have hbl:beatL n=othL n.id (fun k=>appM n (nxtI n k) k) P:=by
  unfold beatL;rw[hP];rfl
 rw[hbl]
 have hPl:Hid (P=n.next.length):=by
  have:=hnl.out
  show _ = _
  omega
 have hP5:P<=5:=by omega
 replace hP:Hid (n.peers=(P:Int)):=hP;clear hbl;obtain⟨xb,xq,e,_,hclx⟩:=hM.x (fun h=>by have:=ilc_len n.next;have h2:=hnl.out;rw[h]at this;simp at this;omega);simp only at e;subst e;have HV:Hid (∀ j,j<n.next.length->w.cell? ⟨xb,xq+j,none⟩=some (.int .i64 (iOf n.next j))):=fun j hj=>hclx _ _ (ilc_at hj)
 clear hclx hM;go_wp2;clear c0 c1 c2 c3 c4 c5 c6 c7 c8 c9 g3
 go_loopw [3,4,5,6,7] (fun x3 x4 x5 x6 x7 wr=>∃ k:Nat,k<=P/\x4=.int .i64 (k:Int)/\NetV w.heap.size (othL n.id (fun k=>appM n (nxtI n k) k) k) x3 wr/\NdB wr w.heap.size n ⟨lo,lc,vo,vc,some ⟨xb,xq,none⟩,nc,mo,mc⟩/\RB w wr) (fun _ x _ _ _ _=>P-(intOf x).toNat)
 case atStart=>exact⟨0,Nat.zero_le _,rfl,hN0,vA,hb⟩
 case round=>
  obtain⟨k,hk,rfl,⟨ao,cap,l,rfl,hl,hN⟩,vW,hRW⟩:=hrel;clear vA hb hN0;obtain⟨c0,c1,c2,c3,c4,c5,c6,c7,c8,c9⟩:=cN vW
  by_cases hlt:k<P
  rotate_left
  ·obtain rfl:k=P:=by omega
   have hge:¬ (k:Int)<n.peers:=by have:=hP.out;omega
   go_wp2;go_ret;exact⟨_,rfl,⟨ao,cap,l,rfl,hl,hN⟩,hRW⟩
  have hlt':(k:Int)<n.peers:=by have:=hP.out;omega
  have hwk:IntKind.i64.wrap ((k:Int)+1)=(k:Int)+1:=by rw[IntKind.wrap_i64];omega
  by_cases hid:(k:Int)=n.id
  ·have e:othL n.id (fun k=>appM n (nxtI n k) k) (k+1)=othL n.id (fun k=>appM n (nxtI n k) k) k:=by simp only[othL];rw[if_pos hid]
   have hid':((k:Int)==n.id)=true:=by simp[hid]
   clear hid;replace e:Hid _:=e;go_wp2
   go_roundw
   case rel=>exact⟨k+1,by omega,by go_num,⟨ao,cap,l,rfl,hl.trans e.out.symm,hN⟩,vW,hRW⟩
   case measure=>first|(simp[intOf];omega)|(simp[intOf];done)
  have hid':((k:Int)==n.id)=false:=by simp[hid]
  have hll:l.length<=1000:=by
   have h1:=othL_len n.id (fun k=>appM n (nxtI n k) k) k;rw[<-hl,List.length_map]at h1;omega
  have hkx:k<n.next.length:=by have:=hPl.out;omega
  have hkx':(k:Int)<(n.next.length:Int):=by omega
  obtain⟨i,hi⟩:∃ i:Nat,iOf n.next k=(i:Int)+1:=⟨(iOf n.next k-1).toNat,by have:=(hnx k hkx).1;omega⟩
  have hil:i<=n.log.length:=by have:=(hnx k hkx).2;omega
  have cv:=keep_cell hRW nl (HV.out k hkx);rw[hi]at cv;have hni:nxtI n k=i:=by simp[nxtI,hi]
  have e:othL n.id (fun k=>appM n (nxtI n k) k) (k+1)=othL n.id (fun k=>appM n (nxtI n k) k) k++[appM n i k]:=by
   simp only[othL];rw[if_neg hid,hni]
  replace e:Hid _:=e;replace hi:Hid _:=hi;replace hl:Hid _:=hl;replace hni:Hid _:=hni;have hwi:IntKind.i64.wrap ((i:Int)+1-1)=(i:Int):=by rw[IntKind.wrap_i64];omega
  have hwi2:IntKind.i64.wrap (i:Int)=(i:Int):=by rw[IntKind.wrap_i64];omega
  have hwi5:IntKind.i64.wrap ((i:Int)+5)=(i:Int)+5:=by rw[IntKind.wrap_i64];omega
  clear hid hnx;have hM4:LRow wr 47 lo (elc n.log):=(HM.out wr hRW).l;obtain⟨en,hen⟩:∃ en:Nat,(en:Int)=min (n.log.length:Int) ((i:Int)+5):=⟨(min (n.log.length:Int) ((i:Int)+5)).toNat,by omega⟩
  have hien:i<=en:=by omega
  have henl:en<=n.log.length:=by omega
  have hfive:=take_five hil hen;replace hen:Hid _:=hen;replace hfive:Hid _:=hfive
  by_cases hi0:0<(i:Int)
  ·obtain⟨gb,gq,eg,_,hclg⟩:=hM4 (fun h=>by have:=elc_len n.log;rw[h]at this;simp at this;omega)
   subst eg;have hrow:=hclg _ _ (elc_at (l:=n.log) (k:=i-1) (by omega)).1
   have hT6:tOf n.log (i-1)=lastL (n.log.take i):=by
    obtain⟨j,rfl⟩:∃ j,i=j+1:=⟨i-1,by omega⟩
    rw[lastL_take hil];rfl
   have hj1:(0:Int)<=(i:Int)-1:=by omega
   have hj2:(i:Int)-1<(n.log.length:Int):=by omega
   have hj3:((i:Int)-1).toNat=i-1:=by omega
   have hj4:(1:Int)<=(i:Int):=by omega
   have hwj:IntKind.i64.wrap ((i:Int)-1)=(i:Int)-1:=by rw[IntKind.wrap_i64];omega
   generalize tOf n.log (i-1)=T at hrow hT6;replace hT6:Hid _:=hT6;clear hclg
   go_wp2_with fail
   refine (l1Min_rb (n.log.length:Int) ((i:Int)+5) _).mono ?_;rintro e1 w1 ⟨rfl,hb1⟩;rw[<-hen.out];replace hRW:=RB.trans _ _ _ hRW hb1;replace vW:NdB w1 w.heap.size n ⟨some ⟨gb,gq,none⟩,lc,vo,vc,some ⟨xb,xq,none⟩,nc,mo,mc⟩:=VHas.next vW hb1;replace hN:=hN.next hb1;replace hM4:=hM4.next hb1;clear hb1 c0 c1 c2 c3 c4 c5 c6 c7 c8 c9 cv
   go_wp2_with fail
   have hd:RB w1 w1.drew:=(Below.refl _ _).drew;replace hRW:=RB.trans _ _ _ hRW hd;replace vW:NdB w1.drew w.heap.size n ⟨some ⟨gb,gq,none⟩,lc,vo,vc,some ⟨xb,xq,none⟩,nc,mo,mc⟩:=VHas.next vW hd;replace hN:=hN.next hd;replace hM4:=hM4.next hd;have hbs:=hRW.size;clear hd;clear hrow hj1 hj2 hj3 hj4 hwj
   refine region_asg2 (by kernel_rfl) (by kernel_rfl) RB RB.refl RB.trans
    [isV (.slice ao l.length cap),isV (.pointer (some ⟨w.heap.size,2,none⟩)),isV (.int .i64 n.term),isV (.pointer (some ⟨w.heap.size,0,none⟩)),isV (.int .i64 n.id),isV (.int .i64 (k:Int)),isV (.int .i64 (i:Int)),isV (.int .i64 T),LE w.heap.size 47,isV (.pointer (some ⟨w.heap.size,4,none⟩)),isV (.slice (some ⟨gb,gq,none⟩) n.log.length lc),isV (.int .i64 (i:Int)),isV (.int .i64 (en:Int)),SlE ((n.log.drop i).take (en-i)),OwV w.heap.size ((n.log.drop i).take (en-i)),isV (.pointer (some ⟨w.heap.size,6,none⟩)),isV (.int .i64 n.commit),MgV w.heap.size (appM n i k),Mg1 w.heap.size (appM n i k)]
    ⟨isV.rb,isV.rb,isV.rb,isV.rb,isV.rb,isV.rb,isV.rb,isV.rb,LE.rb,isV.rb,isV.rb,isV.rb,isV.rb,SlE.rb,OwV.rb,isV.rb,isV.rb,MgV.rb,Mg1.rb,trivial⟩ (by kernel_rfl) _ _ rfl rfl (by kernel_rfl) (by kernel_rfl) (by kernel_rfl) ?_
    (fun v u w9=>NetV w.heap.size (l.map (·.m)++[(appM n i k)]) u w9/\NdB w9 w.heap.size n ⟨some ⟨gb,gq,none⟩,lc,vo,vc,some ⟨xb,xq,none⟩,nc,mo,mc⟩/\RB w w9) ?_ ?_
   ·simp only[List.size_toArray,List.length_cons,List.length_nil,Nat.reduceAdd,Nat.reduceSub,List.take_succ_cons,List.take_zero]
    refine⟨?_,?_,?_,?_,?_,?_,?_,?_,?_,?_,?_,?_,?_,?_,?_,?_,?_,?_,?_,trivial⟩
    ·exact oq rfl fun ev w9 v hR E pr=>by
      have e1:=E.was 3 _;simp[go_sem,e1]
    ·exact oq rfl fun ev w9 v hR E pr=>by
      have e1:=E.was 1 _;simp[go_sem,e1]
    ·exact oq rfl fun ev w9 v hR E pr=>by
      have e1:=E.eq pr 1 45;have cc:=(vW.next hR).cell (j:=2) (by omega);simp[lf]at cc;simp[go_sem,cc,e1]
    ·exact oq rfl fun ev w9 v hR E pr=>by
      have e1:=E.was 1 _;simp[go_sem,e1]
    ·exact oq rfl fun ev w9 v hR E pr=>by
      have e1:=E.eq pr 3 47;have cc:=(vW.next hR).cell (j:=0) (by omega);simp[lf]at cc;simp[go_sem,cc,e1]
    ·exact oq rfl fun ev w9 v hR E pr=>by
      have e1:=E.was 4 _;simp[go_sem,e1]
    ·exact oq rfl fun ev w9 v hR E pr=>by
      have e1:=E.was 5 _;simp[go_sem,e1]
    ·exact oq rfl fun ev w9 v hR E pr=>by
      have e1:=E.was 6 _;simp[go_sem,e1]
    ·exact OpOk.val rfl fun ev w9 v hR E pr=>⟨_,w9.alloc (.cells #[] 47),by simp[go_sem],RB.alloc _ _,LE.new w9 _ _ (Nat.le_trans hbs hR.size)⟩
    ·exact oq rfl fun ev w9 v hR E pr=>by
      have e1:=E.was 1 _;simp[go_sem,e1]
    ·exact oq rfl fun ev w9 v hR E pr=>by
      have e1:=E.eq pr 9 53;have cc:=(vW.next hR).cell (j:=4) (by omega);simp[lf]at cc;simp[go_sem,cc,e1]
    ·exact oq rfl fun ev w9 v hR E pr=>by
      have e1:=E.was 5 _;simp[go_sem,e1]
    ·exact oq rfl fun ev w9 v hR E pr=>by
      have e1:=E.was 7 _;simp[go_sem,e1]
    ·refine OpOk.val rfl fun ev w9 v hR E pr=>?_
     have e1:=E.eq pr 10 54;have e2:=E.eq pr 11 55;have e3:=E.eq pr 12 56;exact both_ok rfl e1 e2 e3 hien henl hlc (hM4.next hR)
    ·refine OpOk.val rfl fun ev w9 v hR E pr=>?_
     exact cat_ok rfl (E.get pr 8 52) (E.get pr 13 57) (by simp;omega) (Nat.le_trans hbs hR.size)
    ·exact oq rfl fun ev w9 v hR E pr=>by
      have e1:=E.was 1 _;simp[go_sem,e1]
    ·exact oq rfl fun ev w9 v hR E pr=>by
      have e1:=E.eq pr 15 59;have cc:=(vW.next hR).cell (j:=6) (by omega);simp[lf]at cc;simp[go_sem,cc,e1]
    ·refine OpOk.val rfl fun ev w9 v hR E pr=>?_
     have e1:=E.eq pr 2 46;have e2:=E.eq pr 4 48;have e3:=E.eq pr 5 49;have e4:=E.eq pr 6 50;have e5:=E.eq pr 7 51;obtain⟨a,c,e6,ho⟩:OwV w.heap.size ((n.log.drop i).take (en-i)) (ev (.tmp 58)) w9:=E.get pr 14 58;have e7:=E.eq pr 16 60;rw[hfive.out]at e6 ho;exact⟨msV (appM n i k) a c,w9,by simp[go_sem,e1,e2,e3,e4,e5,e6,e7,E.con,appM,hT6.out],RB.refl _,a,c,rfl,ho⟩
    ·refine OpOk.val rfl fun ev w9 v hR E pr=>?_
     obtain⟨a,c,e1,ho⟩:MgV w.heap.size (appM n i k) (ev (.tmp 61)) w9:=E.get pr 17 61;exact⟨.slice (some ⟨w9.heap.size,0,none⟩) 1 1,w9.alloc (.cells (msL (appM n i k) a c).toArray 29),by simp[go_sem,e1],RB.alloc _ _,_,a,c,rfl,msB_new w9 (appM n i k) a c,ho.next (RB.alloc _ _)⟩
   ·intro ev w9 v hR E hp
    obtain⟨p0,_,_,_,_,_,_,_,_,_,_,_,_,_,_,_,_,_,p18,_⟩:=hp;have E0:=E.at_ 0 44 rfl (by kernel_rfl) (Nat.le_of_ble_eq_true (by kernel_rfl));have E1:=E.at_ 18 62 rfl (by kernel_rfl) (Nat.le_of_ble_eq_true (by kernel_rfl));have hN9:=hN.next hR;refine ex_mono (app_ok rfl (E0.trans p0) hN9 (by rw[E1];exact p18) hll (Nat.le_trans hbs hR.size)) ?_;rintro u w8 ⟨hv,hg⟩;exact⟨hv,VHas.gr (VHas.next vW hR) hg (fun x e=>hN9.o.typed e) (by decide),rb_row (RB.trans _ _ _ hRW hR) hg (fun x e=>(hN9.o.at e).1)⟩
   ·rintro v u w9 ⟨hv9,vW9,hR9⟩
    simp only[List.size_toArray,List.length_cons,List.length_nil,Nat.reduceAdd,Nat.reduceSub,List.take_succ_cons,List.take_zero,putL,Act.put,List.setIfInBounds_toArray,List.set_cons_zero,List.set_cons_succ];refine⟨u,by simp[go_sem],?_⟩;rw[hl.out,<-e.out]at hv9;clear vW hN hRW;go_wp2
    go_roundw
    case rel=>exact⟨k+1,by omega,by go_num,hv9,vW9,hR9⟩
    case measure=>first|(simp[intOf];omega)|(simp[intOf];done)
  ·have hT6:Hid ((0:Int)=lastL (n.log.take i)):=by
    obtain rfl:i=0:=by omega
    show _ = _
    rw[lastL_zero]
   go_wp2_with fail
   refine (l1Min_rb (n.log.length:Int) ((i:Int)+5) _).mono ?_;rintro e1 w1 ⟨rfl,hb1⟩;rw[<-hen.out];replace hRW:=RB.trans _ _ _ hRW hb1;replace vW:NdB w1 w.heap.size n ⟨lo,lc,vo,vc,some ⟨xb,xq,none⟩,nc,mo,mc⟩:=VHas.next vW hb1;replace hN:=hN.next hb1;replace hM4:=hM4.next hb1;clear hb1 c0 c1 c2 c3 c4 c5 c6 c7 c8 c9 cv
   go_wp2_with fail
   have hd:RB w1 w1.drew:=(Below.refl _ _).drew;replace hRW:=RB.trans _ _ _ hRW hd;replace vW:NdB w1.drew w.heap.size n ⟨lo,lc,vo,vc,some ⟨xb,xq,none⟩,nc,mo,mc⟩:=VHas.next vW hd;replace hN:=hN.next hd;replace hM4:=hM4.next hd;have hbs:=hRW.size;clear hd
   refine region_asg2 (by kernel_rfl) (by kernel_rfl) RB RB.refl RB.trans
    [isV (.slice ao l.length cap),isV (.pointer (some ⟨w.heap.size,2,none⟩)),isV (.int .i64 n.term),isV (.pointer (some ⟨w.heap.size,0,none⟩)),isV (.int .i64 n.id),isV (.int .i64 (k:Int)),isV (.int .i64 (i:Int)),isV (.int .i64 0),LE w.heap.size 47,isV (.pointer (some ⟨w.heap.size,4,none⟩)),isV (.slice lo n.log.length lc),isV (.int .i64 (i:Int)),isV (.int .i64 (en:Int)),SlE ((n.log.drop i).take (en-i)),OwV w.heap.size ((n.log.drop i).take (en-i)),isV (.pointer (some ⟨w.heap.size,6,none⟩)),isV (.int .i64 n.commit),MgV w.heap.size (appM n i k),Mg1 w.heap.size (appM n i k)]
    ⟨isV.rb,isV.rb,isV.rb,isV.rb,isV.rb,isV.rb,isV.rb,isV.rb,LE.rb,isV.rb,isV.rb,isV.rb,isV.rb,SlE.rb,OwV.rb,isV.rb,isV.rb,MgV.rb,Mg1.rb,trivial⟩ (by kernel_rfl) _ _ rfl rfl (by kernel_rfl) (by kernel_rfl) (by kernel_rfl) ?_
    (fun v u w9=>NetV w.heap.size (l.map (·.m)++[(appM n i k)]) u w9/\NdB w9 w.heap.size n ⟨lo,lc,vo,vc,some ⟨xb,xq,none⟩,nc,mo,mc⟩/\RB w w9) ?_ ?_
   ·simp only[List.size_toArray,List.length_cons,List.length_nil,Nat.reduceAdd,Nat.reduceSub,List.take_succ_cons,List.take_zero]
    refine⟨?_,?_,?_,?_,?_,?_,?_,?_,?_,?_,?_,?_,?_,?_,?_,?_,?_,?_,?_,trivial⟩
    ·exact oq rfl fun ev w9 v hR E pr=>by
      have e1:=E.was 3 _;simp[go_sem,e1]
    ·exact oq rfl fun ev w9 v hR E pr=>by
      have e1:=E.was 1 _;simp[go_sem,e1]
    ·exact oq rfl fun ev w9 v hR E pr=>by
      have e1:=E.eq pr 1 45;have cc:=(vW.next hR).cell (j:=2) (by omega);simp[lf]at cc;simp[go_sem,cc,e1]
    ·exact oq rfl fun ev w9 v hR E pr=>by
      have e1:=E.was 1 _;simp[go_sem,e1]
    ·exact oq rfl fun ev w9 v hR E pr=>by
      have e1:=E.eq pr 3 47;have cc:=(vW.next hR).cell (j:=0) (by omega);simp[lf]at cc;simp[go_sem,cc,e1]
    ·exact oq rfl fun ev w9 v hR E pr=>by
      have e1:=E.was 4 _;simp[go_sem,e1]
    ·exact oq rfl fun ev w9 v hR E pr=>by
      have e1:=E.was 5 _;simp[go_sem,e1]
    ·exact oq rfl fun ev w9 v hR E pr=>by
      have e1:=E.was 6 _;simp[go_sem,e1]
    ·exact OpOk.val rfl fun ev w9 v hR E pr=>⟨_,w9.alloc (.cells #[] 47),by simp[go_sem],RB.alloc _ _,LE.new w9 _ _ (Nat.le_trans hbs hR.size)⟩
    ·exact oq rfl fun ev w9 v hR E pr=>by
      have e1:=E.was 1 _;simp[go_sem,e1]
    ·exact oq rfl fun ev w9 v hR E pr=>by
      have e1:=E.eq pr 9 53;have cc:=(vW.next hR).cell (j:=4) (by omega);simp[lf]at cc;simp[go_sem,cc,e1]
    ·exact oq rfl fun ev w9 v hR E pr=>by
      have e1:=E.was 5 _;simp[go_sem,e1]
    ·exact oq rfl fun ev w9 v hR E pr=>by
      have e1:=E.was 7 _;simp[go_sem,e1]
    ·refine OpOk.val rfl fun ev w9 v hR E pr=>?_
     have e1:=E.eq pr 10 54;have e2:=E.eq pr 11 55;have e3:=E.eq pr 12 56;exact both_ok rfl e1 e2 e3 hien henl hlc (hM4.next hR)
    ·refine OpOk.val rfl fun ev w9 v hR E pr=>?_
     exact cat_ok rfl (E.get pr 8 52) (E.get pr 13 57) (by simp;omega) (Nat.le_trans hbs hR.size)
    ·exact oq rfl fun ev w9 v hR E pr=>by
      have e1:=E.was 1 _;simp[go_sem,e1]
    ·exact oq rfl fun ev w9 v hR E pr=>by
      have e1:=E.eq pr 15 59;have cc:=(vW.next hR).cell (j:=6) (by omega);simp[lf]at cc;simp[go_sem,cc,e1]
    ·refine OpOk.val rfl fun ev w9 v hR E pr=>?_
     have e1:=E.eq pr 2 46;have e2:=E.eq pr 4 48;have e3:=E.eq pr 5 49;have e4:=E.eq pr 6 50;have e5:=E.eq pr 7 51;obtain⟨a,c,e6,ho⟩:OwV w.heap.size ((n.log.drop i).take (en-i)) (ev (.tmp 58)) w9:=E.get pr 14 58;have e7:=E.eq pr 16 60;rw[hfive.out]at e6 ho;exact⟨msV (appM n i k) a c,w9,by simp[go_sem,e1,e2,e3,e4,e5,e6,e7,E.con,appM,<-hT6.out],RB.refl _,a,c,rfl,ho⟩
    ·refine OpOk.val rfl fun ev w9 v hR E pr=>?_
     obtain⟨a,c,e1,ho⟩:MgV w.heap.size (appM n i k) (ev (.tmp 61)) w9:=E.get pr 17 61;exact⟨.slice (some ⟨w9.heap.size,0,none⟩) 1 1,w9.alloc (.cells (msL (appM n i k) a c).toArray 29),by simp[go_sem,e1],RB.alloc _ _,_,a,c,rfl,msB_new w9 (appM n i k) a c,ho.next (RB.alloc _ _)⟩
   ·intro ev w9 v hR E hp
    obtain⟨p0,_,_,_,_,_,_,_,_,_,_,_,_,_,_,_,_,_,p18,_⟩:=hp;have E0:=E.at_ 0 44 rfl (by kernel_rfl) (Nat.le_of_ble_eq_true (by kernel_rfl));have E1:=E.at_ 18 62 rfl (by kernel_rfl) (Nat.le_of_ble_eq_true (by kernel_rfl));have hN9:=hN.next hR;refine ex_mono (app_ok rfl (E0.trans p0) hN9 (by rw[E1];exact p18) hll (Nat.le_trans hbs hR.size)) ?_;rintro u w8 ⟨hv,hg⟩;exact⟨hv,VHas.gr (VHas.next vW hR) hg (fun x e=>hN9.o.typed e) (by decide),rb_row (RB.trans _ _ _ hRW hR) hg (fun x e=>(hN9.o.at e).1)⟩
   ·rintro v u w9 ⟨hv9,vW9,hR9⟩
    simp only[List.size_toArray,List.length_cons,List.length_nil,Nat.reduceAdd,Nat.reduceSub,List.take_succ_cons,List.take_zero,putL,Act.put,List.setIfInBounds_toArray,List.set_cons_zero,List.set_cons_succ];refine⟨u,by simp[go_sem],?_⟩;rw[hl.out,<-e.out]at hv9;clear vW hN hRW;go_wp2
    go_roundw
    case rel=>exact⟨k+1,by omega,by go_num,hv9,vW9,hR9⟩
    case measure=>first|(simp[intOf];omega)|(simp[intOf];done)
def agr (n:Nd):Nat->Int
 | 0=>n.commit
 | k+1=>if n.commit<(k:Int)+1 then (if (tOf n.log k==n.term&&majB n.peers (cntI ((k:Int)+1) n.mat))=true then (k:Int)+1 else agr n k) else n.commit
def agrN (n:Nd):Int:=agr n n.log.length
theorem agr_low (n:Nd) {k:Nat} (h:(k:Int)<=n.commit):agr n k=n.commit:=by
 cases k with
 | zero=>rfl
 | succ k=>simp only[agr];rw[if_neg (by omega)]
set_option maxRecDepth 100000 in
set_option maxHeartbeats 4000000 in
theorem agreedOn_any (n:Nd) (s:NdS) (hz:NdZ n s) (hc:0<=n.commit) (w:World) (hM:NdM w n s):Calls Tryz.prog 77 #[ndV n s] w fun e w'=>e=.returned (.int .i64 (agrN n))/\RB w w':=by
 have hzl:=hz.l;have hzm:=hz.m;clear hz;have hcl:∀ k:Nat,cntI ((k:Int)+1) n.mat<=1048576:=fun k=>Nat.le_trans (List.countP_le_length ..) hzm
 have EO:=fun s W=>endOf_any n s hzl W
 obtain⟨lo,lc,vo,vc,no,nc,mo,mc⟩:=s;have hb:=RB.alloc w (.cells (ndL n ⟨lo,lc,vo,vc,no,nc,mo,mc⟩).toArray 27);have vA:=ndB_new w n ⟨lo,lc,vo,vc,no,nc,mo,mc⟩;replace hM:=hM.next hb;go_enter Tryz.func77,Tryz.ntmps77
 go_wp2_with fail
 generalize (w.alloc _)=W at hb vA hM ⊢;refine (EO ⟨lo,lc,vo,vc,no,nc,mo,mc⟩ _).mono ?_;rintro e w1 ⟨rfl,hb1⟩;replace hb:=RB.trans _ _ _ hb hb1;replace vA:NdB w1 w.heap.size n ⟨lo,lc,vo,vc,no,nc,mo,mc⟩:=VHas.next vA hb1;replace hM:=hM.next hb1;clear hb1;go_wp2
 go_loopw [3] (fun x3 wr=>∃ m:Nat,m<=n.log.length/\x3=.int .i64 (m:Int)/\agrN n=agr n m/\RB w1 wr) (fun x _=>(intOf x).toNat)
 case atStart=>exact⟨n.log.length,Nat.le_refl _,rfl,rfl,RB.refl _⟩
 case round=>
  obtain⟨m,hm,rfl,hq,hRW⟩:=hrel;have vW:NdB wr w.heap.size n ⟨lo,lc,vo,vc,no,nc,mo,mc⟩:=VHas.next vA hRW;have c6:=VHas.cell vW (j:=6) (by omega);simp[lf]at c6
  by_cases hlow:(m:Int)<=n.commit
  ·rw[agr_low n hlow]at hq
   have hlow':¬ n.commit<(m:Int):=by omega
   go_wp2;go_ret;exact⟨by first|rfl|(rw[hq];rfl),RB.trans _ _ _ hb hRW⟩
  obtain⟨k,rfl⟩:∃ k,m=k+1:=⟨m-1,by omega⟩
  obtain⟨b,o,e,_,hcl2⟩:=(hM.next hRW).l (fun h=>by have:=elc_len n.log;rw[h]at this;simp at this;omega);simp only at e;subst e;have hrow:=hcl2 _ _ (elc_at (l:=n.log) (k:=k) (by omega)).1;replace hcl:=hcl k;have hlow':n.commit<(k:Int)+1:=by omega
  have hlt2:(k:Int)<(n.log.length:Int):=by omega
  have hk0:(0:Int)<=(k:Int):=by omega
  have htn:(k:Int).toNat=k:=by omega
  have hwk:IntKind.i64.wrap (k:Int)=(k:Int):=by rw[IntKind.wrap_i64];omega
  have ek:((k+1:Nat):Int)=(k:Int)+1:=by omega
  rw[ek];clear hcl2 hlow
  go_wp2_with fail
  clear c6;have hd:RB wr wr.drew:=(Below.refl _ _).drew;replace hRW:=RB.trans _ _ _ hRW hd;replace vW:NdB wr.drew w.heap.size n ⟨some ⟨b,o,none⟩,lc,vo,vc,no,nc,mo,mc⟩:=VHas.next vW hd;replace hrow:=keep_cell hd nl hrow;clear hd;have hw15:IntKind.i64.wrap (((k:Int)+1)-1)=(((k:Int)+1)-1):=by rw[IntKind.wrap_i64];omega
  obtain⟨b21,qb21⟩:∃ b:Bool,b=(((tOf n.log k)==n.term)):=⟨_,rfl⟩
  obtain⟨c10t,hc10t⟩:∃ c:Bool,c=(true&&((b21)==true)):=⟨_,rfl⟩
  obtain⟨b27,qb27⟩:∃ b:Bool,b=(majB n.peers (cntI ((k:Int)+1) n.mat)):=⟨_,rfl⟩
  obtain⟨b28,qb28⟩:∃ b:Bool,b=((b21&&b27)):=⟨_,rfl⟩
  refine region_all (by kernel_rfl) (by kernel_rfl) RB RB.refl RB.trans
   [isV (.pointer (some ⟨w.heap.size,4,none⟩)),isV (.slice (some ⟨b,o,none⟩) n.log.length lc),isV (.int .i64 ((k:Int)+1)),isV (.int .i64 (((k:Int)+1)-1)),isV (.pointer (some ⟨b,o+k*2,none⟩)),isV (.pointer (some ⟨b,o+k*2,none⟩)),isV (.int .i64 (tOf n.log k)),isV (.pointer (some ⟨w.heap.size,2,none⟩)),isV (.int .i64 n.term),isV (.bool b21),isV (.bool b21),isV (gv c10t (ndV n ⟨some ⟨b,o,none⟩,lc,vo,vc,no,nc,mo,mc⟩)),isV (gv c10t (ndV n ⟨some ⟨b,o,none⟩,lc,vo,vc,no,nc,mo,mc⟩)),isV (gv c10t (.int .i64 ((k:Int)+1))),isV (gv c10t (.int .i64 (cntI ((k:Int)+1) n.mat:Int))),isV (gv c10t (.bool b27)),isV (.bool b28)]
   ⟨isV.rb,isV.rb,isV.rb,isV.rb,isV.rb,isV.rb,isV.rb,isV.rb,isV.rb,isV.rb,isV.rb,isV.rb,isV.rb,isV.rb,isV.rb,isV.rb,isV.rb,trivial⟩ rfl ?_ ?_
  ·refine⟨?_,?_,?_,?_,?_,?_,?_,?_,?_,?_,?_,?_,?_,?_,?_,?_,?_,trivial⟩
   ·exact oq rfl fun ev w' v hR E pr=>by
     have e1:=E.was 1 _;simp[go_sem,e1,hwk]
   ·exact oq rfl fun ev w' v hR E pr=>by
     have e1:=E.eq pr 0 12;have cc:=(vW.next hR).cell (j:=4) (by omega);simp[lf]at cc;simp[go_sem,cc,e1,hwk]
   ·exact oq rfl fun ev w' v hR E pr=>by
     have e1:=E.was 3 _;simp[go_sem,e1,hwk]
   ·exact oq rfl fun ev w' v hR E pr=>by
     have e1:=E.eq pr 2 14;simp[go_sem,E.con,hw15,e1,hwk]
   ·exact oq rfl fun ev w' v hR E pr=>by
     have e1:=E.eq pr 1 13;have e2:=E.eq pr 3 15;simp[go_sem,hlt2,hk0,htn,e1,e2,hwk]
   ·exact oq rfl fun ev w' v hR E pr=>by
     have e1:=E.eq pr 4 16;simp[go_sem,e1,hwk]
   ·exact oq rfl fun ev w' v hR E pr=>by
     have e1:=E.eq pr 5 17;have cc:=keep_cell hR nl hrow;simp[go_sem,cc,e1,hwk]
   ·exact oq rfl fun ev w' v hR E pr=>by
     have e1:=E.was 1 _;simp[go_sem,e1,hwk]
   ·exact oq rfl fun ev w' v hR E pr=>by
     have e1:=E.eq pr 7 19;have cc:=(vW.next hR).cell (j:=2) (by omega);simp[lf]at cc;simp[go_sem,cc,e1,hwk]
   ·exact oq rfl fun ev w' v hR E pr=>by
     have e1:=E.eq pr 6 18;have e2:=E.eq pr 8 20;simp[go_sem,qb21,e1,e2,hwk]
   ·exact oq rfl fun ev w' v hR E pr=>by
     have e1:=E.eq pr 9 21;simp[go_sem,e1,hwk]
   ·exact OpOk.gd RB.refl 10 22 true true (b21) (fun _ _ h=>h) c10t hc10t _ (fun _=>rfl) fun ev w' v hR E pr hC=>by
     have e1:=E.was 1 _;exact exec_nd rfl e1 (vW.next hR)
   ·exact OpOk.gd RB.refl 10 22 true true (b21) (fun _ _ h=>h) c10t hc10t _ (fun _=>rfl) fun ev w' v hR E pr hC=>by
     have e1:=E.was 1 _;exact exec_nd rfl e1 (vW.next hR)
   ·exact OpOk.gd RB.refl 10 22 true true (b21) (fun _ _ h=>h) c10t hc10t _ (fun _=>rfl) fun ev w' v hR E pr hC=>by
     have e1:=E.was 3 _;simp[go_sem,gv,hC,hc10t,e1,hwk]
   ·exact OpOk.gdCall 10 22 true true (b21) (fun _ _ h=>h) c10t hc10t _ (fun _=>rfl) fun ev w' v hR E pr hC=>by
     have e1:=E.eq pr 12 24;have e2:=E.eq pr 13 25;rw[hC]at e1;rw[hC]at e2;refine⟨108,#[ndV n ⟨some ⟨b,o,none⟩,lc,vo,vc,no,nc,mo,mc⟩,.int .i64 ((k:Int)+1)],by simp[go_sem,gv,e1,e2,E.fn],?_⟩;exact howManyReach_any n ⟨some ⟨b,o,none⟩,lc,vo,vc,no,nc,mo,mc⟩ ((k:Int)+1) hzm _ (hM.next (RB.trans _ _ _ hRW hR))
   ·exact OpOk.gdCall 10 22 true true (b21) (fun _ _ h=>h) c10t hc10t _ (fun _=>rfl) fun ev w' v hR E pr hC=>by
     have e1:=E.eq pr 11 23;have e2:=E.eq pr 14 26;rw[hC]at e1;rw[hC]at e2;refine⟨89,#[ndV n ⟨some ⟨b,o,none⟩,lc,vo,vc,no,nc,mo,mc⟩,.int .i64 (cntI ((k:Int)+1) n.mat:Int)],by simp[go_sem,gv,e1,e2,E.fn],?_⟩;rw[qb27];exact isMajority_any n ⟨some ⟨b,o,none⟩,lc,vo,vc,no,nc,mo,mc⟩ (cntI ((k:Int)+1) n.mat) hcl _
   ·exact oq rfl fun ev w' v hR E pr=>by
     have e1:=E.eq pr 10 22;have e2:=E.eq pr 15 27;rcases Bool.eq_false_or_eq_true (b21) with hs|hs<;>simp[go_sem,E.con,qb28,gv,hc10t,e1,e2,hs,hwk]
  ·intro v w' hR hp
   obtain⟨_,_,_,_,_,_,_,_,_,_,_,_,_,_,_,_,p16,_⟩:=hp;replace p16:v 16=.bool b28:=p16;simp only[putL,Nat.zero_add,Nat.reduceAdd,p16,Act.put,List.setIfInBounds_toArray,List.set_cons_zero,List.set_cons_succ]
   have hst:agr n (k+1)=if b28=true then (k:Int)+1 else agr n k:=by
    simp only[agr];rw[if_pos hlow',qb28,qb21,qb27]
   rw[hst]at hq;clear hst;rcases Bool.eq_false_or_eq_true b28 with h28|h28
   ·rw[if_pos h28]at hq
    rw[h28];go_wp2;go_ret;exact⟨by first|rfl|(rw[hq];rfl),RB.trans _ _ _ hb (RB.trans _ _ _ hRW hR)⟩
   ·rw[if_neg (by rw[h28];simp)]at hq
    rw[h28];go_wp2
    go_roundw
    case rel=>exact⟨k,by omega,by go_num,hq,RB.trans _ _ _ hRW hR⟩
    case measure=>first|(simp[intOf];omega)|(simp[intOf];done)
end
end Go.Proofs.YtbabakgjkloabaaGreatDoor
