/-
  Helpers: Regs, Sq7, Ordi, Orde, Sq2, Gard, Sq6, Ent.
-/
import Derived.Test.YtbabakgjkloabaaGreatDoorPack1
import Derived.ArgAppend
set_option linter.unusedVariables false
set_option linter.unusedSimpArgs false
set_option maxRecDepth 100000
set_option maxHeartbeats 16000000
namespace Go.Proofs.YtbabakgjkloabaaGreatDoor
section
open Go Go.RowKit
def RB(u v:World):Prop:=Below u.heap.size u v
theorem RB.refl(w:World):RB w w:=Below.refl _ _
theorem RB.trans(u v w:World)(h:RB u v)(k:RB v w):RB u w:=aF h nl k
theorem RB.alloc(w:World)(o:Obj):RB w (w.alloc o):=(Below.refl w.heap.size w).alloc nl o
def isV(u:Value)(v:Value)(_:World):Prop:=v=u
theorem isV.rb{u:Value}(v:Value)(w w':World)(h:isV u v w)(_:RB w w'):isV u v w':=h
theorem cD{vs:List Value}(h:(vs.all fun v=>v.oneCell')=true):∀ v∈vs,v.oneCell'=true:=by simpa using h
theorem dT{v:Value}(h:v.oneCell'=true):v.oneCell'=true:=h
theorem pY{w W W':World}{row:Option Nat}(h:Below w.heap.size w W)(hg:W.grownBy W' row)(hx:∀ x,row=some x->w.heap.size<=x):Below w.heap.size w W':=
 ⟨hg.os.trans h.os,hg.tape.trans h.tape,hg.output.trans h.output,Nat.le_trans h.size hg.size,fun k hk=>(hg.block k (Nat.lt_of_lt_of_le hk h.size) (fun q=>by have:=hx k q.symm;omega)).trans (h.block k hk)⟩
section
variable {P:Program} {ops:Array Oper}
theorem EvOk.get{a0:Act}{o:Oper}{v:Nat->Value}{ev:Operand->Value}{Pr:Nat->Value->World->Prop}{w:World}(E:EvOk ops a0 o v ev)(pr:∀ j,j<ops.size->aK o j=true->Pr j (v j) w)(j d:Nat)
  (h1:(ops[j]?).bind (·.dst)=some d:=by rfl) (h2:aK o j=true:=by kernel_rfl) (h3:Nat.blt d a0.tmps.size=true:=by kernel_rfl) (h4:Nat.blt j ops.size=true:=by kernel_rfl):Pr j (ev (.tmp d)) w:=by
 rw[E.at_ j d h1 h2 (nb h3)];exact pr j (nb h4) h2
theorem EvOk.was{a0:Act}{o:Oper}{v:Nat->Value}{ev:Operand->Value}(E:EvOk ops a0 o v ev)(d:Nat)(u:Value)(h:iN ops d=true:=by kernel_rfl)(h2:a0.eval (.tmp d)=u:=by rfl):ev (.tmp d)=u:=(E.old d h).trans h2
theorem OpOk.get{a0:Act}{w0:World}{R:World->World->Prop}{Pr:Nat->Value->World->Prop}{i:Nat}{o:Oper}(hR:∀ w,R w w)(u:Value)(hp:∀ w,Pr i u w)
  (h:∀ (ev:Operand->Value) (w:World) (v:Nat->Value),R w0 w->EvOk ops a0 o v ev->(∀ j,j<ops.size->aK o j=true->Pr j (v j) w)->(execOp ev o).run P w=.ok (.value u) w) (hg:o.guard=none:=by rfl):OpOk P ops a0 w0 R Pr i o:=
 OpOk.val hg fun ev w v hR' E pr=>⟨u,w,h ev w v hR' E pr,hR w,hp w⟩
theorem dP{o:Oper}{ev:Operand->Value}{s x:Operand}{t:TypeId}{v1 v2 u:Value}{w w':World}(ho:o.op=.call { callee:=.builtin .append,args:=#[s,x],argTypes:=#[t,t] })(hs:ev s=v1)(hx:ev x=v2)(hr:(Builtin.append_ #[t,t] o.type #[v1,v2]).run P w=.ok u w'):(execOp ev o).run P w=.ok (.value u) w':=by
 unfold execOp;simp only[ho,resolve,invoke,builtin,Sem.run_bind,Sem.run_pure,Result.andThen_ok,List.map_toArray,List.map_cons,List.map_nil,hs,hx,hr]
theorem bU{o:Oper}{ev:Operand->Value}{ty:TypeId}{x y:Operand}{b:Nat}{t:TypeId}{f:Nat->Value}{W:World}(vs:List Value)(ho:o.op=.store ty x y)(hx:ev x=.pointer (some ⟨b,0,none⟩))(hy:ev y=.agg vs.toArray)(hb:VHas W b t vs.length f)(hi:(P.info? ty).map (·.size)=some vs.length)(hv:∀ v∈vs,v.oneCell'=true):(execOp ev o).run P W=.ok .skip (setL W b 0 vs):=by
 have hrun:=pA (P:=P) (ty:=ty) vs hb hi hv;unfold execOp;simp only[ho,hx,hy,Instr.storeAt,Instr.sureAddr,Sem.run_bind,Sem.run_pure,Result.andThen_ok,hrun]
structure ElI(P:Program)(t e:TypeId)(size bytes:Nat):Prop where
 und:P.underlying t=some (.slice e)
 inf:∃ i z,P.info? e=some i/\i.zero=some z/\i.size=size/\i.bytes=bytes/\z.cells.size=size
 pos:0<size
 few:bytes<=1000
theorem zH{t e:TypeId}{size bytes:Nat}(E:ElI P t e size bytes)(w:World)(ty:TypeId)(base g:Nat)(f:Nat->Value)(h0:GOwn w base e size (some ⟨g,0,none⟩) 0 0 f)(so:Option Addr)(m c:Nat)(hr:GRow w so (m*size) f)(h1:∀ j,(f j).oneCell'=true)(hm:m<=1048576)(hbase:base<=w.heap.size):
  ∃ ao' cap' w',(Builtin.append_ #[t,t] ty #[.slice (some ⟨g,0,none⟩) 0 0,.slice so m c]).run P w=.ok (.slice ao' m cap') w'/\GOwn w' base e size ao' m cap' f/\RB w w':=by
 obtain⟨und,⟨i,z,hi,hz,hs,hb,hzs⟩,pos,few⟩:=E;rcases Nat.eq_zero_or_pos m with h9|h9
 ·subst h9
  refine⟨some ⟨g,0,none⟩,0,w,?_,h0,RB.refl _⟩;cases so<;>simp[Builtin.append_,run_underlying und,sizeOf,typeInfo,hi,Builtin.lenOf,Builtin.firstCells,storeCells,loadCells,loadCellsFrom]
 ·have hp:0<m*size:=Nat.mul_pos h9 pos
  obtain⟨b,off,e',_⟩:=hr hp;subst e'
  obtain⟨v',w',h2,h3,h4⟩:=run_append_arg_grows (P:=P) w t ty e i z size bytes und hi hz hs hb hzs pos ⟨g,0,none⟩ 0 0 [] (by simp) (fun j u hu=>by simp at hu) ⟨b,off,none⟩ m c (cV f (m*size)) (bR _ _) (GRow.news hr) (by omega) (by unfold maxLen;omega) (by
   have:(0+m)*bytes<=1048576*1000:=Nat.mul_le_mul (by omega) few
   omega)
  rw[Nat.zero_add,List.nil_append]at h3;obtain⟨g',cap',e1,_,_⟩:=h3.form h9;subst e1;exact⟨some ⟨g',0,none⟩,cap',w',h2,GOwn.from h3 hbase,⟨h4.os,h4.tape,h4.output,h4.size,fun k hk=>h4.block k hk (by simp)⟩⟩
def LE(base:Nat)(t:TypeId)(v:Value)(w:World):Prop:=∃ g,v=.slice (some ⟨g,0,none⟩) 0 0/\aG w g t/\base<=g/\∀ size f,GOwn w base t size (some ⟨g,0,none⟩) 0 0 f
theorem LE.rb{base:Nat}{t:TypeId}(v:Value)(w w':World)(h:LE base t v w)(hb:RB w w'):LE base t v w':=by
 obtain⟨g,e,ht,hg,h⟩:=h;refine⟨g,e,?_,hg,fun size f=>(h size f).next hb⟩;obtain⟨cs,z,h1⟩:=ht;have hlt:=(Array.getElem?_eq_some_iff.1 h1).1;exact⟨cs,z,by rw[hb.block g hlt];exact h1⟩
theorem LE.new(w:World)(base:Nat)(t:TypeId)(hb:base<=w.heap.size):LE base t (.slice (some ⟨w.heap.size,0,none⟩) 0 0) (w.alloc (.cells #[] t)):=
 ⟨w.heap.size,rfl,⟨#[],(0,0),Go.Deep.blk_alloc_new _ _⟩,hb,fun size f=>(GOwn.empty w t size f).from hb⟩
theorem cI{o:Oper}{ev:Operand->Value}{ty:TypeId}{x y:Operand}{b k n:Nat}{t:TypeId}{f:Nat->Value}{W:World}{v:Value}(ho:o.op=.store ty x y)(hx:ev x=.pointer (some ⟨b,k,none⟩))(hy:ev y=v)(hb:VHas W b t n f)(hk:k<n)(hi:(P.info? ty).map (·.size)=some 1)(hvc:v.cells=#[v])(hv:v.oneCell'=true):(execOp ev o).run P W=.ok .skip (W.setCell ⟨b,k,none⟩ v):=by
 have c1:=hb.cell hk;have z1:=hb.frozen k
 have hrun:(storeVar ty ⟨b,k,none⟩ v).run P W=.ok () (W.setCell ⟨b,k,none⟩ v):=by
  cases hq:P.info? ty with
  | none=>simp[hq]at hi
  | some i=>
   have hs:i.size=1:=by simpa[hq] using hi
   have e1:(⟨b,k,none⟩:Addr).add 0=⟨b,k,none⟩:=by rw[Addr.add_mid];rfl
   have hst:(store (⟨b,k,none⟩:Addr) v).run P W=.ok () (W.setCell ⟨b,k,none⟩ v):=by
    rw[run_store P W _ v _ hv,c1];simp[z1]
   simp[storeVar,sizeOf,typeInfo,hq,hvc,hs,storeCells,e1,hst]
 unfold execOp;simp only[ho,hx,hy,Instr.storeAt,Instr.sureAddr,Sem.run_bind,Sem.run_pure,Result.andThen_ok,hrun]
theorem lN{t e:TypeId}{size bytes:Nat}(E:ElI P t e size bytes)(w:World)(ty:TypeId)(base:Nat)(f:Nat->Value)(ao:Option Addr)(n cap:Nat)(h0:GOwn w base e size ao n cap f)(so:Option Addr)(m c:Nat)(g:Nat->Value)(hr:GRow w so (m*size) g)(h1:∀ j,(g j).oneCell'=true)(hn:n+m<=100000000)(hbase:base<=w.heap.size):
  ∃ ao' cap' w',(Builtin.append_ #[t,t] ty #[.slice ao n cap,.slice so m c]).run P w=.ok (.slice ao' (n+m) cap') w'/\GOwn w' base e size ao' (n+m) cap' (fun j=>if j<n*size then f j else g (j-n*size))/\w.grownBy w' (Value.slice ao n cap).ownBlock/\((Value.slice ao' (n+m) cap').ownBlock=(Value.slice ao n cap).ownBlock\/(Value.slice ao' (n+m) cap').ownBlock=some w.heap.size):=by
 obtain⟨und,⟨i,z,hi,hz,hs,hb,hzs⟩,pos,few⟩:=E;rcases Nat.eq_zero_or_pos m with h9|h9
 ·subst h9
  refine⟨ao,cap,w,?_,h0.congr (fun j hj=>by rw[if_pos hj]),⟨rfl,rfl,rfl,Nat.le_refl _,fun _ _ _=>rfl⟩,.inl rfl⟩
  have hnc:n<=cap:=by
   rcases h0.2 with ⟨h2,h3⟩|⟨g',cap',cur,h2,_,_,h3,_⟩
   ·omega
   ·simp at h2;omega
  cases so<;>cases ao<;>simp[Builtin.append_,run_underlying und,sizeOf,typeInfo,hi,Builtin.lenOf,Builtin.firstCells,storeCells,loadCells,loadCellsFrom,hnc]
 ·have hp:0<m*size:=Nat.mul_pos h9 pos
  obtain⟨b,off,e',_⟩:=hr hp;subst e'
  obtain⟨g',cap',w',h2,h3,h4,h5,_⟩:=run_append_lies (P:=P) w t ty base e i z size bytes und hi hz hs hb hzs pos (.slice ao n cap) n (cV f (n*size)) h0 ⟨b,off,none⟩ m c (cV g (m*size)) (bR _ _) (GRow.news hr) (fun u hu=>by
   obtain⟨j,_,rfl⟩:=List.mem_map.1 hu
   exact h1 j) h9 (by unfold maxLen;omega) (by
   have:(n+m)*bytes<=100000000*1000:=Nat.mul_le_mul hn few
   omega) hbase w.heap.size rfl
  refine⟨some ⟨g',0,none⟩,cap',w',h2,?_,h4,?_⟩
  ·unfold GOwn
   have e:cV f (n*size)++cV g (m*size)=cV (fun j=>if j<n*size then f j else g (j-n*size)) ((n+m)*size):=by
    have:=F5 (f:=f) (g:=g) (h:=fun j=>if j<n*size then f j else g (j-n*size)) (a:=n*size) (b:=m*size) (fun j hj=>by rw[if_pos hj]) (fun j hj=>by rw[if_neg (by omega)];congr 1;omega);rw[Nat.add_mul];exact this
   rw[<-e];exact h3
  ·rcases h5 with h5|h5
   ·exact .inl (by rw[h5];rfl)
   ·exact .inr (by rw[h5];rfl)
theorem kC{o:Oper}{rest:List Oper}{a:Act}{W:World}{Q:Exit->Act->World->Prop}(hgd:o.guard=none)(ty:TypeId)(x y:Operand)(ho:o.op=.store ty x y)(hd:o.dst=none)(b k:Nat)(v:Value)(hx:a.eval x=.pointer (some ⟨b,k,none⟩))(hy:a.eval y=v){t:TypeId}{n:Nat}{f:Nat->Value}(hb:VHas W b t n f)(hk:k<n)(hi:(P.info? ty).map (·.size)=some 1)(hvc:v.cells=#[v])(hv:v.oneCell'=true)
  (h:∀ W',W'=W.setCell ⟨b,k,none⟩ v->wpList P ops Q rest a W'):wpList P ops Q (o :: rest) a W:=
 wpList_plain hgd fun K hK=>by
  have hr:=cI (P:=P) ho hx hy hb hk hi hvc hv;unfold Oper.wp;rw[hr];simp only[Oper.upon,hd];refine hK _ _ ?_;exact h _ rfl
theorem fY{o:Oper}{rest:List Oper}{a:Act}{w:World}{Q:Exit->Act->World->Prop}(hgd:o.guard=none)(s x:Operand){t e:TypeId}{size bytes:Nat}(E:ElI P t e size bytes)(ho:o.op=.call { callee:=.builtin .append,args:=#[s,x],argTypes:=#[t,t] })(d:Nat)(hd:o.dst=some d)(base:Nat)(f:Nat->Value)(ao:Option Addr)(n cap:Nat)(hs:a.eval s=.slice ao n cap)(h0:GOwn w base e size ao n cap f)(so:Option Addr)(m c:Nat)(g:Nat->Value)(hx:a.eval x=.slice so m c)(hr:GRow w so (m*size) g)(h1:∀ j,(g j).oneCell'=true)(hn:n+m<=100000000)(hbase:base<=w.heap.size)
  (h:∀ ao' cap' w',GOwn w' base e size ao' (n+m) cap' (fun j=>if j<n*size then f j else g (j-n*size))->w.grownBy w' (Value.slice ao n cap).ownBlock->((Value.slice ao' (n+m) cap').ownBlock=(Value.slice ao n cap).ownBlock\/(Value.slice ao' (n+m) cap').ownBlock=some w.heap.size)->wpList P ops Q rest (a.put (some d) (.slice ao' (n+m) cap')) w'):wpList P ops Q (o :: rest) a w:=
 wpList_plain hgd fun K hK=>by
  obtain⟨ao',cap',w',hrun,h2,h3,h4⟩:=lN E w o.type base f ao n cap h0 so m c g hr h1 hn hbase;have hr2:=dP (P:=P) ho hs hx hrun;unfold Oper.wp;rw[hr2];simp only[Oper.upon,hd];exact hK _ _ (h ao' cap' w' h2 h3 h4)
end
theorem rt(u v w:World)(h:RB u v)(k:RB v w):RB u w:=RB.trans u v w h k
theorem ra(w:World)(o:Obj):RB w (w.alloc o):=RB.alloc w o
theorem rr(w:World):RB w w:=RB.refl w
theorem iR{u:Value}(v:Value)(w w':World)(h:isV u v w)(hb:RB w w'):isV u v w':=isV.rb v w w' h hb
theorem vn{w w':World}{b n:Nat}{t:TypeId}{f:Nat->Value}(h:VHas w b t n f)(hb:Below w.heap.size w w'):VHas w' b t n f:=h.next hb
end
section
open Go
section
variable {P:Program} {ops:Array Oper} {Q:Exit->Act->World->Prop}
def Z8(P:Program)(ops:Array Oper)(a0:Act)(Inv:(Nat->Bool)->(Nat->Value)->World->Prop)(Q:Exit->Act->World->Prop)(i:Nat)(o:Oper):Prop:=
 ∀ (a:Act) (D:Nat->Bool) (v:Nat->Value) (w:World),D i=false->(∀ j,aY o j->D j=true)->Inv D v w->EvOk ops a0 o v a.eval →
  if Region.wanted o (yielded ops a.tmps)=true then o.wp P a w (fun a' w'=>∃ u,a'=a.put o.dst u/\Inv (fun k=>if k=i then true else D k) (fun k=>if k=i then u else v k) w') Q
  else Inv (fun k=>if k=i then true else D k) (fun k=>if k=i then undef else v k) w
theorem Q1(hok:cE ops=true){a0:Act}(Inv:(Nat->Bool)->(Nat->Value)->World->Prop)
  (hstep:∀ i o,ops[i]?=some o->Z8 P ops a0 Inv Q i o)
  (hend:∀ D v w,(∀ j,j<ops.size->D j=true)->Inv D v w->Q .normal (bF v 0 ops.toList a0) w):
  ∀ (fuel:Nat) (listed:Array Bool) (a:Act) (w:World) (v:Nat->Value),listed.size=ops.size->uS ops listed<=fuel->Inv (fun j=>listed.getD j false) v w->Fr ops a0 (fun j=>listed.getD j false) v a->wpAny P .any ops Q fuel listed a w:=by
 have fin:∀ (listed:Array Bool) (a:Act) (w:World) (v:Nat->Value),listed.size=ops.size->Inv (fun j=>listed.getD j false) v w->Fr ops a0 (fun j=>listed.getD j false) v a->(∀ j,j<ops.size->listed.getD j true=true)->Q .normal a w:=by
  intro listed a w v hsz hI hF hall
  have hall':∀ j,j<ops.size->listed.getD j false=true:=fun j hj=>by
   have:=hall j hj;have hl:j<listed.size:=by omega
   simp[hl]at this ⊢;exact this
  have h1:Fr ops a0 (fun k=>decide (k<0+ops.toList.length)) v a:=hF.congr (fun j hj=>by simp[hall' j hj,hj]) (fun _ _ _=>rfl);have h2:=lL hok v a0 ops.toList 0 a0 (fun k _=>by simp) ((Fr.init a0 v).congr (fun j _=>by simp) (fun _ _ _=>rfl));rw[h1.uniq h2];exact hend _ v w hall' hI
 intro fuel
 induction fuel with
 | zero=>
  intro listed a w v hsz hu hI hF
  have hall:∀ j,j<ops.size->listed.getD j true=true:=fun j hj=>by
   rcases bq (listed.getD j true) with q|q
   ·exact q
   ·exfalso
    have h0:(List.range ops.size).filter (fun i=>!listed.getD i true)=[]:=List.eq_nil_of_length_eq_zero (by unfold uS at hu;omega);have:j∈(List.range ops.size).filter (fun i=>!listed.getD i true):=List.mem_filter.2 ⟨List.mem_range.2 hj,by rw[q];rfl⟩;rw[h0]at this;cases this
  refine⟨?_,fin listed a w v hsz hI hF hall⟩;rw[List.eq_nil_iff_forall_not_mem];intro j hj;obtain⟨h0,o,ho,_⟩:=mem_ready.1 hj;rw[hall j (Array.getElem?_eq_some_iff.1 ho).1]at h0;cases h0
 | succ fuel ih=>
  intro listed a w v hsz hu hI hF;refine⟨fun hr=>fin listed a w v hsz hI hF (lM hok listed hr hsz),fun i hi=>?_⟩;obtain⟨h0,o,ho,hall⟩:=mem_ready.1 hi;have hil:i<ops.size:=(Array.getElem?_eq_some_iff.1 ho).1
  have h0f:listed.getD i false=false:=by
   have hl:i<listed.size:=by omega
   simp[hl]at h0 ⊢;exact h0
  have hw:∀ j,aY o j->listed.getD j false=true:=fun j ⟨e,he,hb,ej⟩=>by
   subst ej;exact hall e he hb
  have hE:EvOk ops a0 o v a.eval:=⟨fun j d hj hwj hlt=>by
   cases hp:ops[j]? with
   | none=>rw[hp]at hj;cases hj
   | some p=>
    rw[hp]at hj;have:=hF.done j p d hp (hw j (aQ hwj)) hj hlt;simp[Act.eval,Array.getD_eq_getD_getElem?,this],fun d hn=>by
    have:=hF.rest d fun j p hj _=>dN hn j p hj
    simp[Act.eval,Array.getD_eq_getD_getElem?,this],fun _=>rfl,fun _=>rfl,fun _=>rfl⟩
  have hS:=hstep i o ho a (fun j=>listed.getD j false) v w h0f hw hI hE
  have next:∀ u w',Inv (fun k=>if k=i then true else listed.getD k false) (fun k=>if k=i then u else v k) w'->wpAny P .any ops Q fuel (listed.setIfInBounds i true) (a.put o.dst u) w':=fun u w' hI'=>by
   have e:(fun k=>(listed.setIfInBounds i true).getD k false)=(fun k=>if k=i then true else listed.getD k false):=by
    funext k
    by_cases hki:k=i
    ·subst hki
     have hl:k<listed.size:=by omega
     simp[hl]
    ·simp only[hki,if_false]
     rw[getD_set_ne false (fun q=>hki q.symm)]
   refine ih _ _ _ (fun k=>if k=i then u else v k) (by simp[hsz]) ?_ (by rw[e];exact hI') ?_
   ·have:=kT (l:=List.range ops.size) List.nodup_range (f:=fun k=>!listed.getD k true) (g:=fun k=>!(listed.setIfInBounds i true).getD k true) (i:=i) (List.mem_range.2 hil) (by simp only[h0];rfl) (by
     have hl:i<listed.size:=by omega
     simp[hl]) (fun k hk=>by
     show (!(listed.setIfInBounds i true).getD k true) = !listed.getD k true
     rw[getD_set_ne true (fun q=>hk q.symm)])
    unfold uS at hu ⊢;omega
   ·rw[e]
    exact hF.put hok ho h0f u
  unfold wpOp;simp only[ho]
  split
  ·rename_i hwt
   rw[if_pos hwt]at hS;exact .inl (Oper.wp_mono (fun a' w' ⟨u,e,h1⟩=>by rw[e];exact next u w' h1) hS)
  ·rename_i hwt
   rw[if_neg hwt]at hS;exact next undef w hS
theorem jP{id:Nat}{a0:Act}{w0:World}(hm:P.follows .mixedOrders=true)(hok:cE ops=true)(Inv:(Nat->Bool)->(Nat->Value)->World->Prop)(h0:Inv (fun _=>false) (fun _=>undef) w0.drew)
  (hstep:∀ i o,ops[i]?=some o->Z8 P ops a0 Inv Q i o)
  (hend:∀ D v w,(∀ j,j<ops.size->D j=true)->Inv D v w->Q .normal (bF v 0 ops.toList a0) w):(Code.region id ops true).wp P Q a0 w0:=by
 refine wp_region_any hm ?_
 have e:(fun j=>(Array.replicate ops.size false).getD j false)=(fun _=>false):=by
  funext j
  by_cases hj:j<ops.size<;>simp[hj]
 refine Q1 hok Inv hstep hend ops.size _ a0 _ (fun _=>undef) (by simp) ?_ (by rw[e];exact h0) ?_
 ·unfold uS
  exact Nat.le_trans (List.length_filter_le _ _) (by simp)
 ·rw[e]
  exact Fr.init a0 _
def LateOk(P:Program)(ops:Array Oper)(a0:Act)(w0:World)(Post:World->Prop)(Pr:Nat->Value->World->Prop)(ks:List Nat)(i:Nat)(o:Oper):Prop:=
 ∀ (ev:Operand->Value) (w:World) (v:Nat->Value),(RB w0 w\/Post w)->EvOk ops a0 o v ev->(∀ j,j∈ks->aK o j=true->Pr j (v j) w)->∃ u w',(execOp ev o).run P w=.ok (.value u) w'/\RB w w'/\Pr i u w'
def MidOk(P:Program)(ops:Array Oper)(a0:Act)(w0:World)(Rx:World->World->Prop)(Post:World->Prop)(Pr:Nat->Value->World->Prop)(i:Nat)(o:Oper):Prop:=
 ∀ (a:Act) (w:World) (v:Nat->Value) (Q:Exit->Act->World->Prop),RB w0 w->EvOk ops a0 o v a.eval->(∀ j,j<ops.size->aK o j=true->Pr j (v j) w)->o.wp P a w (fun a' w'=>∃ u,a'=a.put o.dst u/\Rx w w'/\Post w'/\Pr i u w') Q
theorem MidOk.val{a0:Act}{w0:World}{Rx:World->World->Prop}{Post:World->Prop}{Pr:Nat->Value->World->Prop}{i:Nat}{o:Oper}
  (h:∀ (ev:Operand->Value) (w:World) (v:Nat->Value),RB w0 w->EvOk ops a0 o v ev->(∀ j,j<ops.size->aK o j=true->Pr j (v j) w)->∃ u w',(execOp ev o).run P w=.ok (.value u) w'/\Rx w w'/\Post w'/\Pr i u w'):MidOk P ops a0 w0 Rx Post Pr i o:=by
 intro a w v Q hR E pr;obtain⟨u,w',hr,h1,h2,h3⟩:=h a.eval w v hR E pr;unfold Oper.wp;rw[hr];exact⟨u,rfl,h1,h2,h3⟩
def yB(ops:Array Oper)(kx:Nat)(early keep:List Nat):Bool:=
 keep.all (fun i=>decide (i+1<ops.size))&&(List.range (ops.size-1)).all fun i=>match ops[i]? with
  | none=>true
  | some o=>o.guard.isNone&&(i==kx||(if early.contains i then (decide (i<kx)&&(List.range (kx+1)).any fun j=>decide (i<j)&&((j==kx||early.contains j)&&match ops[j]? with|none=>false|some p=>aK p i)) else keep.contains i))
theorem oH{o:Oper}{j:Nat}:aK o j=true↔aY o j:=⟨aQ,fun ⟨e,he,hb,hj⟩=>by
 unfold aK;rw[Array.any_eq_true']
 exact⟨e,he,by simp[hb,hj]⟩⟩
theorem lU{id:Nat}{a0:Act}{w0:World}(hm:P.follows .mixedOrders=true)(hok:cE ops=true)(haw:dV ops=true)(kx:Nat)(early keep:List Nat)(hmid:yB ops kx early keep=true)(hkx:Nat.blt kx (ops.size-1)=true)
  (Rx:World->World->Prop) (Post:World->Prop) (hPost:∀ w w',Post w->RB w w'->Post w') (l:List (Value->World->Prop)) (hPr:gI RB l) (hll:l.length=ops.size-1)
  (hkeep:∀ i,i∈keep->∀ v w w',cJ l i v w->Rx w w'->cJ l i v w')
  (hearly:∀ i,i∈early->∀ o,ops[i]?=some o->OpOk P ops a0 w0.drew RB (cJ l) i o) (hlate:∀ i,i+1<ops.size->i≠kx->i∉early->∀ o,ops[i]?=some o->LateOk P ops a0 w0.drew Post (cJ l) (kx :: keep) i o)
  (hx:∀ o,ops[kx]?=some o->MidOk P ops a0 w0.drew Rx Post (cJ l) kx o)
  (o9:Oper) (ho9:ops[ops.size-1]?=some o9) (hg9:o9.guard=none) (hd9:o9.dst=none)
  (Fin:(Nat->Value)->World->Prop)
  (hstore:∀ (ev:Operand->Value) (w':World) (v:Nat->Value),Post w'->EvOk ops a0 o9 v ev->(∀ i,i∈kx :: keep->cJ l i (v i) w')->∃ w'',(execOp ev o9).run P w'=.ok .skip w''/\∀ v',(∀ i,i+1<ops.size->v' i=v i)->Fin v' w'')
  (hend:∀ v w'',Fin v w''->Q .normal (bF v 0 ops.toList a0) w''):(Code.region id ops true).wp P Q a0 w0:=by
 have hkx':kx<ops.size-1:=nb hkx;have h9:ops.size-1<ops.size:=(Array.getElem?_eq_some_iff.1 ho9).1;simp only[yB,Bool.and_eq_true,List.all_eq_true,List.mem_range,decide_eq_true_eq]at hmid;obtain⟨keepB,hmid⟩:=hmid
 have guardN:∀ (i:Nat) (o:Oper),ops[i]?=some o->o.guard=none:=fun i o ho=>by
  have hil:i<ops.size:=(Array.getElem?_eq_some_iff.1 ho).1
  by_cases hi9:i=ops.size-1
  ·rw[hi9,ho9]at ho
   cases ho;exact hg9
  ·have:=hmid i (by omega)
   rw[ho]at this;simp only[Bool.and_eq_true,Option.isNone_iff_eq_none]at this;exact this.1
 have lateIs:∀ (i:Nat) (o:Oper),ops[i]?=some o->i+1<ops.size->i≠kx->i∉early->i∈keep:=fun i o ho hi hne hE=>by
  have:=hmid i (by omega);rw[ho]at this;simp only[Bool.and_eq_true,Bool.or_eq_true,beq_iff_eq,hne,false_or]at this;have h2:=this.2;rw[if_neg (by simpa using hE)]at h2;simpa using h2
 have earlyIs:∀ i,i∈early->i<ops.size-1->i≠kx->i<kx/\∃ j p,i<j/\j<=kx/\(j=kx\/j∈early)/\ops[j]?=some p/\aY p i:=fun i hE hi hne=>by
  have hoi:ops[i]?=some ops[i]:=by simp
  have:=hmid i hi;rw[hoi]at this;simp only[Bool.and_eq_true,Bool.or_eq_true,beq_iff_eq,hne,false_or]at this;have h2:=this.2;rw[if_pos (by simpa using hE)]at h2;simp only[Bool.and_eq_true,decide_eq_true_eq,List.any_eq_true,List.mem_range,Bool.or_eq_true,beq_iff_eq]at h2;obtain⟨h3,j,hj,hij,hjk,hwj⟩:=h2;refine⟨h3,j,?_⟩;cases hp:ops[j]? with
  | none=>rw[hp]at hwj;cases hwj
  | some p=>
   rw[hp]at hwj;exact⟨p,hij,by omega,hjk.imp (fun q=>q) (by simp),rfl,aQ hwj⟩
 have earlyD:∀ (D:Nat->Bool),(∀ i o j,ops[i]?=some o->D i=true->aY o j->D j=true)->D kx=true->∀ n i,i+n=kx->i∈early->i<ops.size-1->D i=true:=by
  intro D hC hDx n
  induction n using Nat.strongRecOn with
  | ind n ih=>
   intro i hin hE hi
   by_cases hne:i=kx
   ·rw[hne];exact hDx
   obtain⟨_,j,p,hij,hjk,hjE,hp,hwj⟩:=earlyIs i hE hi hne;refine hC j p i hp ?_ hwj;rcases hjE with rfl|hjE
   ·exact hDx
   ·exact ih (kx-j) (by omega) j (by omega) hjE (by omega)
 -- the last one is awaited by none, and waits for all, step by step
 have allD:∀ (D:Nat->Bool),(∀ i o j,ops[i]?=some o->D i=true->aY o j->D j=true)->(∀ j,aY o9 j->D j=true)->∀ n j,j+1+n=ops.size-1->D j=true:=by
  intro D hC h9w n
  induction n using Nat.strongRecOn with
  | ind n ih=>
   intro j hj;obtain⟨i,o,ho,hji,hwj⟩:=fD haw (j:=j) (by omega);have hil:i<ops.size:=(Array.getElem?_eq_some_iff.1 ho).1
   by_cases hi9:i=ops.size-1
   ·rw[hi9,ho9]at ho
    cases ho;exact h9w j hwj
   ·exact hC i o j ho (ih (ops.size-1-1-i) (by omega) i (by omega)) hwj
 let Inv:(Nat->Bool)->(Nat->Value)->World->Prop:=fun D v w=>
  (∀ i o j,ops[i]?=some o->D i=true->aY o j->D j=true) ∧
  (if D (ops.size-1)=true then Fin v w else if D kx=true then Post w/\∀ i,i∈kx :: keep->D i=true->cJ l i (v i) w else RB w0.drew w/\∀ i,i+1<ops.size->D i=true->cJ l i (v i) w)
 refine jP hm hok Inv ⟨fun _ _ _ _ h=>(Bool.noConfusion h),?_⟩ ?_ ?_
 ·simp only[Bool.false_eq_true,if_false]
  exact⟨rr _,fun _ _ h=>h.elim⟩
 ·intro i o ho a D v w hDi hDw hI hE
  obtain⟨hC,hI⟩:=hI;have hil:i<ops.size:=(Array.getElem?_eq_some_iff.1 ho).1;rw[if_pos (by unfold Region.wanted;rw[guardN i o ho])]
  have hC':∀ i' o' j,ops[i']?=some o'->(if i'=i then true else D i')=true->aY o' j->(if j=i then true else D j)=true:=fun i' o' j ho' hd hw=>by
   by_cases hji:j=i
   ·simp[hji]
   ·simp only[hji,if_false]
    by_cases hii:i'=i
    ·subst hii
     rw[ho]at ho';cases ho';exact hDw j hw
    ·simp only[hii,if_false]at hd
     exact hC i' o' j ho' hd hw
  have hnl:i≠ops.size-1->D (ops.size-1)=false:=fun hne=>by
   rcases bq (D (ops.size-1)) with q|q
   ·exfalso
    have:=allD D hC (fun j hj=>hC _ _ j ho9 q hj) (ops.size-1-1-i) i (by omega);rw[hDi]at this;cases this
   ·exact q
  by_cases hi9:i=ops.size-1
  ·have ho':o=o9:=by rw[hi9,ho9]at ho;exact (oI ho).symm
   subst ho';have hall:=allD D hC hDw;have hDx:D kx=true:=hall (ops.size-1-1-kx) kx (by omega);rw[if_neg (by rw[<-hi9,hDi];simp),if_pos hDx]at hI
   obtain⟨w'',hr,hF⟩:=hstore a.eval w v hI.1 hE (fun k hk=>hI.2 k hk (by
    by_cases hk9:k+1<ops.size
    ·exact hall (ops.size-1-1-k) k (by omega)
    ·exfalso
     rcases List.mem_cons.1 hk with rfl|hk
     ·omega
     ·exact absurd (keepB k hk) hk9))
   unfold Oper.wp;rw[hr];simp only[Oper.upon,hd9];refine⟨undef,by simp[Act.put],hC',?_⟩;rw[if_pos (by simp[hi9])];exact hF _ (fun k hk=>by rw[if_neg (by omega)])
  ·have hD9:=hnl hi9
   have hD9':(if ops.size-1=i then true else D (ops.size-1))=false:=by rw[if_neg (fun q=>hi9 q.symm),hD9]
   rw[if_neg (by rw[hD9];simp)]at hI
   by_cases hix:i=kx
   ·subst hix
    rw[if_neg (by rw[hDi];simp)]at hI;refine Oper.wp_mono ?_ (hx o ho a w v Q hI.1 hE (fun j hj hw=>hI.2 j (by have:=(bO hok ho).1 j (aQ hw);omega) (hDw j (aQ hw))));rintro a' w' ⟨u,e,h1,h2,h3⟩;refine⟨u,e,hC',?_⟩;dsimp only;rw[if_neg (by rw[hD9'];simp),if_pos (by simp)];refine⟨h2,fun k hk hdk=>?_⟩
    by_cases hki:k=i
    ·subst hki;simp only[if_true];exact h3
    ·simp only[hki,if_false]at hdk ⊢
     rcases List.mem_cons.1 hk with q|hk
     ·exact absurd q hki
     ·have hk1:k+1<ops.size:=keepB k hk
      exact hkeep k hk _ _ _ (hI.2 k hk1 hdk) h1
   ·have hxe:(if kx=i then true else D kx)=D kx:=if_neg (fun q=>hix q.symm)
    by_cases hE':i∈early
    ·have hDx:D kx=false:=by
      rcases bq (D kx) with q|q
      ·exfalso
       have h1:=(earlyIs i hE' (by omega) hix).1;have:=earlyD D hC q (kx-i) i (by omega) hE' (by omega);rw[hDi]at this;cases this
      ·exact q
     rw[if_neg (by rw[hDx];simp)]at hI
     have hO:=hearly i hE' o ho a w v Q hI.1 (fun j p d hj hd hlt hwj=>hE.at_ j d (by rw[hj];exact hd) (oH.2 hwj) hlt) (fun j hj hwj=>hI.2 j (by have:=(bO hok ho).1 j hwj;omega) (hDw j hwj)) (fun d hno=>by
      have:iN ops d=true:=by
       unfold iN;rw[Array.all_eq_true'];intro p hp;obtain⟨j,hj⟩:=Array.mem_iff_getElem?.1 hp;simpa using hno j p hj
      exact hE.old d this)
     rw[if_pos (by unfold Region.wanted;rw[guardN i o ho])]at hO;refine Oper.wp_mono ?_ hO;rintro a' w' ⟨u,e,h1,h2⟩;refine⟨u,e,hC',?_⟩;dsimp only;rw[if_neg (by rw[hD9'];simp),if_neg (by rw[hxe,hDx];simp)];refine⟨rt _ _ _ hI.1 h1,fun k hk hdk=>?_⟩
     by_cases hki:k=i
     ·subst hki;simp only[if_true];exact h2
     ·simp only[hki,if_false]at hdk ⊢
      exact cC hPr k _ _ _ (hI.2 k hk hdk) h1
    ·have hkp:=lateIs i o ho (by omega) hix hE'
     have hpr:∀ j,j∈kx :: keep->aK o j=true->cJ l j (v j) w:=fun j hj hw=>by
      have hw':=aQ hw;have hd:=hDw j hw'
      split at hI
      ·exact hI.2 j hj hd
      ·exact hI.2 j (by have:=(bO hok ho).1 j hw';omega) hd
     obtain⟨u,w',hr,h1,h2⟩:=hlate i (by omega) hix hE' o ho a.eval w v (by
      split at hI
      ·exact .inr hI.1
      ·exact .inl hI.1) hE hpr
     unfold Oper.wp;rw[hr];refine⟨u,rfl,hC',?_⟩;dsimp only;rw[if_neg (by rw[hD9'];simp)]
     split at hI
     ·next hDx=>
      rw[if_pos (by rw[hxe];exact hDx)];refine⟨hPost _ _ hI.1 h1,fun k hk hdk=>?_⟩
      by_cases hki:k=i
      ·subst hki;simp only[if_true];exact h2
      ·simp only[hki,if_false]at hdk ⊢
       exact cC hPr k _ _ _ (hI.2 k hk hdk) h1
     ·next hDx=>
      rw[if_neg (by rw[hxe];exact hDx)];refine⟨rt _ _ _ hI.1 h1,fun k hk hdk=>?_⟩
      by_cases hki:k=i
      ·subst hki;simp only[if_true];exact h2
      ·simp only[hki,if_false]at hdk ⊢
       exact cC hPr k _ _ _ (hI.2 k hk hdk) h1
 ·intro D v w hall hI
  obtain⟨_,hI⟩:=hI;rw[if_pos (hall _ h9)]at hI;exact hend v w hI
end
section
variable {P:Program} {ops:Array Oper} {Q:Exit->Act->World->Prop}
def fE(ex:List (Nat × Nat))(j:Nat):Option Nat:=(ex.find? fun p=>p.1==j).map (·.2)
def fF(sj:List (Nat × Nat))(j:Nat):Nat:=((sj.find? fun p=>p.1==j).map (·.2)).getD j
def DB(ops:Array Oper)(sj:List (Nat × Nat)):Bool:=(List.range ops.size).all fun j=>fF sj j==j||(match ops[j]? with|none=>false|some o=>aK o (fF sj j))
def ExOk(P:Program)(ops:Array Oper)(a0:Act)(G:World->Prop)(R:World->World->Prop)(Pr:Nat->Value->World->Prop)(ex sj:List (Nat × Nat))(i:Nat)(o:Oper):Prop:=
 ∀ (a:Act) (w:World) (v:Nat->Value) (Q:Exit->Act->World->Prop),G w->EvOk ops a0 o v a.eval->(∀ j,j<ops.size->aK o j=true->fF sj j=j->(fE ex j=none\/fE ex j=some i)->Pr j (v j) w)->o.wp P a w (fun a' w'=>∃ u,a'=a.put o.dst u/\R w w'/\G w'/\Pr i (if fF sj i=i then u else v (fF sj i)) w') Q
def O7(ops:Array Oper):List (Nat × Nat)->List (Nat × Nat)->Bool
 | _,[]=>true
 | acc,(j,i) :: r=>(match ops[j]? with|none=>false|some o=>(List.range ops.size).any fun k=>aK o k&&(k==i||acc.contains (k,i)))&&O7 ops ((j,i) :: acc) r
theorem mJ{D:Nat->Bool}(hD:∀ (j:Nat) (o:Oper),ops[j]?=some o->D j=true->∀ k,aY o k->D k=true):∀ (r acc:List (Nat × Nat)),(∀ p∈acc,D p.1=true->D p.2=true)->O7 ops acc r=true->∀ p∈r,D p.1=true->D p.2=true
 | [],acc,_,_,p,hp,_=>by cases hp
 | (j,i) :: r,acc,ha,h,p,hp,hj=>by
  simp only[O7,Bool.and_eq_true]at h
  have h0:D j=true->D i=true:=fun hDj=>by
   cases ho:ops[j]? with
   | none=>rw[ho]at h;exact absurd h.1 (by simp)
   | some o=>
    rw[ho]at h;obtain⟨k,_,hk⟩:=List.any_eq_true.1 h.1;simp only[Bool.and_eq_true,Bool.or_eq_true,beq_iff_eq,List.contains_iff_mem]at hk;have hDk:=hD j o ho hDj k (aQ hk.1);rcases hk.2 with q|q
    ·rw[<-q];exact hDk
    ·exact ha _ q hDk
  rcases List.mem_cons.1 hp with rfl|hp
  ·exact h0 hj
  ·exact mJ hD r ((j,i) :: acc) (fun p hp=>by
    rcases List.mem_cons.1 hp with rfl|hp
    ·exact h0
    ·exact ha p hp) h.2 p hp hj
theorem E3{id:Nat}{a0:Act}{w0:World}(hm:P.follows .mixedOrders=true)(hok:cE ops=true)(hgd:(ops.all fun o=>o.guard.isNone)=true)(G:World->Prop)(hG0:G w0.drew)(Rx:Nat->World->World->Prop)(l:List (Value->World->Prop))(ex sj dp:List (Nat × Nat))(hsj:DB ops sj=true)(hdp:O7 ops [] dp=true)
  (hkeep:∀ i j,i<ops.size->j<ops.size->i≠j->fE ex j≠some i->(j,i)∉dp->∀ v w w',cJ l j v w->G w->Rx i w w'->cJ l j v w')
  (hstep:∀ i o,ops[i]?=some o->ExOk P ops a0 G (Rx i) (cJ l) ex sj i o)
  (hend:∀ v w,G w->(∀ j,j<ops.size->fE ex j=none->cJ l j (v (fF sj j)) w)->Q .normal (bF v 0 ops.toList a0) w):(Code.region id ops true).wp P Q a0 w0:=by
 refine jP hm hok (fun D v w=>G w/\(∀ j o,ops[j]?=some o->D j=true->∀ k,aY o k->D k=true)/\∀ j,j<ops.size->D j=true->(∀ e,fE ex j=some e->D e=false)->cJ l j (v (fF sj j)) w) ⟨hG0,(fun j o _ h=>by cases h),fun j _ h=>by cases h⟩ (fun i o ho=>?_) (fun D v w hD hI=>?_)
 ·intro a D v w hi hw hI hE
  have hil:i<ops.size:=(Array.getElem?_eq_some_iff.1 ho).1
  have hg:o.guard=none:=by
   have:=(Array.all_eq_true'.1 hgd) o (Array.mem_of_getElem? ho);simpa using this
  have hsub:∀ j,j<ops.size->D j=true->fF sj j≠i:=fun j hj hDj q=>by
   have h1:=(List.all_eq_true.1 hsj) j (List.mem_range.2 hj);have hoj:ops[j]?=some ops[j]:=by simp[hj]
   rw[hoj]at h1;simp only[Bool.or_eq_true,beq_iff_eq]at h1;rcases h1 with h1|h1
   ·rw[h1]at q;subst q;rw[hi]at hDj;cases hDj
   ·have:=hI.2.1 j _ hoj hDj _ (aQ h1)
    rw[q,hi]at this;cases this
  rw[if_pos (by unfold Region.wanted;rw[hg])]
  have h1:=hstep i o ho a w v Q hI.1 hE (fun j hj hwj hs hx=>by
   have:=hI.2.2 j hj (hw j (aQ hwj)) (fun e he=>by
    rcases hx with hx|hx
    ·rw[hx]at he;cases he
    ·rw[hx]at he;cases he;exact hi)
   rw[hs]at this
   exact this)
  refine Oper.wp_mono (fun a' w' ⟨u,e,hR,hG,hp⟩=>⟨u,e,hG,fun j p hj hD k hk=>?_,fun j hj hD hx=>?_⟩) h1
  ·by_cases q:k=i
   ·simp[q]
   ·simp only[if_neg q]
    by_cases q2:j=i
    ·subst q2
     rw[ho]at hj;cases hj;exact hw k hk
    ·exact hI.2.1 j p hj (by simpa[q2] using hD) k hk
  ·by_cases q:j=i
   ·subst q
    exact hp
   ·have hD':D j=true:=by simpa[q] using hD
    have hne:=hsub j hj hD';simp only[if_neg hne];refine hkeep i j hil hj (fun z=>q z.symm) (fun z=>?_) (fun z=>?_) _ w w' (hI.2.2 j hj hD' (fun e he=>?_)) hI.1 hR
    ·have:=hx i z
     simp at this
    ·have:=mJ hI.2.1 dp [] (fun p hp=>by cases hp) hdp (j,i) z hD'
     rw[hi]at this;cases this
    ·have:=hx e he
     by_cases q2:e=i
     ·subst q2;simp at this
     ·simpa[q2] using this
 ·exact hend v w hI.1 (fun j hj hx=>hI.2.2 j hj (hD j hj) (fun e he=>by rw[hx]at he;cases he))
section
variable {a0:Act} {G:World->Prop} {R:World->World->Prop} {Pr:Nat->Value->World->Prop} {ex sj:List (Nat × Nat)} {i:Nat} {o:Oper}
theorem ExOk.val(hs:fF sj i=i)(h:∀ (ev:Operand->Value) (w:World) (v:Nat->Value),G w->EvOk ops a0 o v ev->(∀ j,j<ops.size->aK o j=true->fF sj j=j->(fE ex j=none\/fE ex j=some i)->Pr j (v j) w)->∃ u w',(execOp ev o).run P w=.ok (.value u) w'/\R w w'/\G w'/\Pr i u w'):ExOk P ops a0 G R Pr ex sj i o:=by
 intro a w v Q hG E pr;obtain⟨u,w',hr,h1,h2,h3⟩:=h a.eval w v hG E pr;unfold Oper.wp;rw[hr];exact⟨u,rfl,h1,h2,by rw[if_pos hs];exact h3⟩
theorem ExOk.get(hs:fF sj i=i)(u:Value)(hR:∀ w,R w w)(hp:∀ w,Pr i u w)(h:∀ (ev:Operand->Value) (w:World) (v:Nat->Value),G w->EvOk ops a0 o v ev->(∀ j,j<ops.size->aK o j=true->fF sj j=j->(fE ex j=none\/fE ex j=some i)->Pr j (v j) w)->(execOp ev o).run P w=.ok (.value u) w):ExOk P ops a0 G R Pr ex sj i o:=
 ExOk.val hs fun ev w v hG E pr=>⟨u,w,h ev w v hG E pr,hR w,hG,hp w⟩
theorem ExOk.skip(hd:o.dst=none)(hs:fF sj i≠i)(h:∀ (ev:Operand->Value) (w:World) (v:Nat->Value),G w->EvOk ops a0 o v ev->(∀ j,j<ops.size->aK o j=true->fF sj j=j->(fE ex j=none\/fE ex j=some i)->Pr j (v j) w)->∃ w',(execOp ev o).run P w=.ok .skip w'/\R w w'/\G w'/\Pr i (v (fF sj i)) w'):ExOk P ops a0 G R Pr ex sj i o:=by
 intro a w v Q hG E pr;obtain⟨w',hr,h1,h2,h3⟩:=h a.eval w v hG E pr;unfold Oper.wp;rw[hr];simp only[Oper.upon,hd];exact⟨undef,rfl,h1,h2,by rw[if_neg hs];exact h3⟩
theorem ExOk.call(hs:fF sj i=i)(h:∀ (ev:Operand->Value) (w:World) (v:Nat->Value),G w->EvOk ops a0 o v ev->(∀ j,j<ops.size->aK o j=true->fF sj j=j->(fE ex j=none\/fE ex j=some i)->Pr j (v j) w)->∃ f args,(execOp ev o).run P w=.ok (.enter f args) w/\Calls P f args w fun e w'=>∃ u,e=.returned u/\R w w'/\G w'/\Pr i u w'):ExOk P ops a0 G R Pr ex sj i o:=by
 intro a w v Q hG E pr;obtain⟨f,args,hr,hc⟩:=h a.eval w v hG E pr;unfold Oper.wp;rw[hr];refine Calls.mono hc ?_;rintro e w' ⟨u,rfl,h1,h2,h3⟩;exact⟨u,rfl,h1,h2,by rw[if_pos hs];exact h3⟩
theorem EvOk.tld{v:Nat->Value}{ev:Operand->Value}{w:World}(E:EvOk ops a0 o v ev)(pr:∀ j,j<ops.size->aK o j=true->fF sj j=j->(fE ex j=none\/fE ex j=some i)->Pr j (v j) w)(j d:Nat)
  (h1:(ops[j]?).bind (·.dst)=some d:=by rfl) (h2:aK o j=true:=by kernel_rfl) (h3:Nat.blt d a0.tmps.size=true:=by kernel_rfl) (h4:(fE ex j==none||fE ex j==some i)=true:=by kernel_rfl) (h5:(fF sj j==j)=true:=by kernel_rfl):Pr j (ev (.tmp d)) w:=by
 rw[E.at_ j d h1 h2 (nb h3)];refine pr j ?_ h2 (by simpa using h5) (by simpa using h4);cases ho:ops[j]? with
 | none=>rw[ho]at h1;cases h1
 | some p=>exact (Array.getElem?_eq_some_iff.1 ho).1
end
theorem ExOk.ret{a0:Act}{G:World->Prop}{Pr:Nat->Value->World->Prop}{ex sj:List (Nat × Nat)}{i:Nat}{o:Oper}(hs:fF sj i=i)(u:Value)(hGR:∀ w w',G w->RB w w'->G w')(hp:∀ w,Pr i u w)(h:∀ (ev:Operand->Value) (w:World) (v:Nat->Value),G w->EvOk ops a0 o v ev->(∀ j,j<ops.size->aK o j=true->fF sj j=j->(fE ex j=none\/fE ex j=some i)->Pr j (v j) w)->∃ f args,(execOp ev o).run P w=.ok (.enter f args) w/\Calls P f args w fun e w'=>e=.returned u/\RB w w'):ExOk P ops a0 G RB Pr ex sj i o:=
 ExOk.call hs fun ev w v hG E pr=>by
  obtain⟨f,args,hr,hc⟩:=h ev w v hG E pr;exact⟨f,args,hr,Calls.mono hc fun e w' ⟨e1,hb⟩=>⟨u,e1,hb,hGR w w' hG hb,hp w'⟩⟩
def uY(P:Program)(ops:Array Oper)(a0:Act)(G:World->Prop)(Rx:Nat->World->World->Prop)(Pr:Nat->Value->World->Prop)(ex sj:List (Nat × Nat)):Nat->List Oper->Prop
 | _,[]=>True
 | i,o :: r=>ExOk P ops a0 G (Rx i) Pr ex sj i o/\uY P ops a0 G Rx Pr ex sj (i+1) r
theorem eF{a0:Act}{G:World->Prop}{Rx:Nat->World->World->Prop}{Pr:Nat->Value->World->Prop}{ex sj:List (Nat × Nat)}{i:Nat}:uY P ops a0 G Rx Pr ex sj i []:=trivial
theorem aA{a0:Act}{G:World->Prop}{Rx:Nat->World->World->Prop}{Pr:Nat->Value->World->Prop}{ex sj:List (Nat × Nat)}{i:Nat}{o:Oper}{r:List Oper}(h:ExOk P ops a0 G (Rx i) Pr ex sj i o)(k:uY P ops a0 G Rx Pr ex sj (i+1) r):uY P ops a0 G Rx Pr ex sj i (o :: r):=⟨h,k⟩
theorem zI{a0:Act}{G:World->Prop}{Rx:Nat->World->World->Prop}{Pr:Nat->Value->World->Prop}{ex sj:List (Nat × Nat)}:∀ (l:List Oper) (k:Nat),uY P ops a0 G Rx Pr ex sj k l->∀ i o,l[i]?=some o->ExOk P ops a0 G (Rx (k+i)) Pr ex sj (k+i) o
 | [],_,_,i,o,h=>by simp at h
 | p :: r,k,h,0,o,ho=>by
  obtain rfl:p=o:=by simpa using ho
  exact h.1
 | p :: r,k,h,i+1,o,ho=>by
  have e:k+(i+1)=k+1+i:=by omega
  rw[e];exact zI r (k+1) h.2 i o (by simpa using ho)
theorem eG{id:Nat}{a0:Act}{w0:World}(hm:P.follows .mixedOrders=true)(hok:cE ops=true)(hgd:(ops.all fun o=>o.guard.isNone)=true)(G:World->Prop)(hG0:G w0.drew)(Rx:Nat->World->World->Prop)(sp:List Nat)(l:List (Value->World->Prop))(ex sj dp:List (Nat × Nat))(hsj:DB ops sj=true)(hdp:O7 ops [] dp=true)
  (hmono:gI RB l) (hsp:∀ i,i∉sp->Rx i=RB)
  (hkx:∀ i,i∈sp->∀ j,j<ops.size->i≠j->fE ex j≠some i->(j,i)∉dp->∀ v w w',cJ l j v w->G w->Rx i w w'->cJ l j v w')
  (hstep:uY P ops a0 G Rx (cJ l) ex sj 0 ops.toList)
  (hend:∀ v w,G w->(∀ j,j<ops.size->fE ex j=none->cJ l j (v (fF sj j)) w)->Q .normal (bF v 0 ops.toList a0) w):(Code.region id ops true).wp P Q a0 w0:=by
 refine E3 hm hok hgd G hG0 Rx l ex sj dp hsj hdp (fun i j hi hj hne hx hd v w w' hp hG hR=>?_) (fun i o ho=>?_) hend
 ·by_cases q:i∈sp
  ·exact hkx i q j hj hne hx hd v w w' hp hG hR
  ·rw[hsp i q]at hR
   exact cC hmono j v w w' hp hR
 ·have:=zI ops.toList 0 hstep i o (by simpa using ho)
  simpa using this
end
end
section
open Go Go.RowKit
section
variable {P:Program} {ops:Array Oper} {a0:Act} {i:Nat} {o:Oper} {Pr:Nat->Value->World->Prop}
theorem oq{w0:World}{u:Value}(hp:Pr i u=fun _=>u=u)
  (h:∀ (ev:Operand->Value) (w:World) (v:Nat->Value),RB w0 w->EvOk ops a0 o v ev->(∀ j,j<ops.size->aK o j=true->Pr j (v j) w)->(execOp ev o).run P w=.ok (.value u) w) (hg:o.guard=none:=by rfl):OpOk P ops a0 w0 RB Pr i o:=OpOk.get rr u (fun w=>by rw[hp]) h hg
theorem EvOk.eq{v:Nat->Value}{ev:Operand->Value}{w:World}(E:EvOk ops a0 o v ev)(pr:∀ j,j<ops.size->aK o j=true->Pr j (v j) w)(j d:Nat){x:Value}(hx:∀ u,Pr j u w->u=x:=by exact fun _ h=>h)
  (h1:(ops[j]?).bind (·.dst)=some d:=by rfl) (h2:aK o j=true:=by kernel_rfl) (h3:Nat.blt d a0.tmps.size=true:=by kernel_rfl) (h4:Nat.blt j ops.size=true:=by kernel_rfl):ev (.tmp d)=x:=hx _ (E.get pr j d h1 h2 h3 h4)
theorem xq{G:World->Prop}{ex sj:List (Nat × Nat)}{u:Value}(hs:fF sj i=i)(hp:Pr i u=fun _=>u=u)(h:∀ (ev:Operand->Value) (w:World) (v:Nat->Value),G w->EvOk ops a0 o v ev->(∀ j,j<ops.size->aK o j=true->fF sj j=j->(fE ex j=none\/fE ex j=some i)->Pr j (v j) w)->(execOp ev o).run P w=.ok (.value u) w):ExOk P ops a0 G RB Pr ex sj i o:=ExOk.get hs u rr (fun w=>by rw[hp]) h
end
section
variable {P:Program} {ops:Array Oper}
abbrev gv(c:Bool)(v:Value):Value:=bif c then v else undef
theorem jB{o:Oper}{a:Act}{j d:Nat}{b Cj bj:Bool}(hg:o.guard=some (j,b))(hd:(ops[j]?).bind (·.dst)=some d)(he:a.eval (.tmp d)=gv Cj (.bool bj)):Region.wanted o (yielded ops a.tmps)=(Cj&&(bj==b)):=by
 unfold Region.wanted yielded;rw[hg];simp only[hd];simp only[Act.eval,Array.getD_eq_getD_getElem?]at he;simp only[Option.bind_some];cases h:a.tmps[d]? with
 | none=>
  rw[h]at he;cases Cj
  ·simp
  ·simp[gv,undef]at he
 | some u=>
  rw[h]at he;simp only[Option.getD_some]at he;subst he;cases Cj
  ·simp[gv,undef]
  ·simp[gv]
theorem OpOk.gd{a0:Act}{w0:World}{R:World->World->Prop}{Pr:Nat->Value->World->Prop}{i:Nat}{o:Oper}(hR:∀ w,R w w)(j d:Nat)(b Cj bj:Bool)(hPj:∀ v w,Pr j v w->v=gv Cj (.bool bj))(C:Bool)(hC:C=(Cj&&(bj==b)))(u:Value)(hp:∀ w,Pr i (gv C u) w)
  (h:∀ (ev:Operand->Value) (w:World) (v:Nat->Value),R w0 w->EvOk ops a0 o v ev->(∀ j,j<ops.size->aK o j=true->Pr j (v j) w)->C=true->(execOp ev o).run P w=.ok (.value u) w)
  (hg:o.guard=some (j,b):=by rfl) (h1:(ops[j]?).bind (·.dst)=some d:=by rfl) (h2:aK o j=true:=by kernel_rfl) (h3:Nat.blt d a0.tmps.size=true:=by kernel_rfl) (h4:Nat.blt j ops.size=true:=by kernel_rfl):OpOk P ops a0 w0 R Pr i o:=by
 intro a w v Q hRw hd hpr hb
 have E:EvOk ops a0 o v a.eval:=⟨fun j d hj hw hlt=>by
  cases ho:ops[j]? with
  | none=>rw[ho]at hj;cases hj
  | some p=>
   rw[ho]at hj
   exact hd j p d ho hj hlt (aQ hw),fun d hn=>hb d fun j p hj=>dN hn j p hj,fun _=>rfl,fun _=>rfl,fun _=>rfl⟩
 have hpr':∀ j,j<ops.size->aK o j=true->Pr j (v j) w:=fun j hj hw=>hpr j hj (aQ hw)
 have he:=hPj _ _ (E.get hpr' j d h1 h2 h3 h4);rw[jB hg h1 he,<-hC];cases hc:C with
 | true=>
  rw[if_pos rfl];have hr:=h a.eval w v hRw E hpr' hc;unfold Oper.wp;rw[hr];have:=hp w;rw[hc]at this;exact⟨u,rfl,hR w,this⟩
 | false=>
  rw[if_neg (by simp)];have:=hp w;rw[hc]at this;exact this
theorem OpOk.gdCall{a0:Act}{w0:World}{R:World->World->Prop}{Pr:Nat->Value->World->Prop}{i:Nat}{o:Oper}(j d:Nat)(b Cj bj:Bool)(hPj:∀ v w,Pr j v w->v=gv Cj (.bool bj))(C:Bool)(hC:C=(Cj&&(bj==b)))(u:Value)(hp:∀ w,Pr i (gv C u) w)
  (h:∀ (ev:Operand->Value) (w:World) (v:Nat->Value),R w0 w->EvOk ops a0 o v ev->(∀ j,j<ops.size->aK o j=true->Pr j (v j) w)->C=true->∃ f args,(execOp ev o).run P w=.ok (.enter f args) w/\Calls P f args w fun e w'=>e=.returned u/\R w w')
  (hg:o.guard=some (j,b):=by rfl) (h1:(ops[j]?).bind (·.dst)=some d:=by rfl) (h2:aK o j=true:=by kernel_rfl) (h3:Nat.blt d a0.tmps.size=true:=by kernel_rfl) (h4:Nat.blt j ops.size=true:=by kernel_rfl):OpOk P ops a0 w0 R Pr i o:=by
 intro a w v Q hRw hd hpr hb
 have E:EvOk ops a0 o v a.eval:=⟨fun j d hj hw hlt=>by
  cases ho:ops[j]? with
  | none=>rw[ho]at hj;cases hj
  | some p=>
   rw[ho]at hj
   exact hd j p d ho hj hlt (aQ hw),fun d hn=>hb d fun j p hj=>dN hn j p hj,fun _=>rfl,fun _=>rfl,fun _=>rfl⟩
 have hpr':∀ j,j<ops.size->aK o j=true->Pr j (v j) w:=fun j hj hw=>hpr j hj (aQ hw)
 have he:=hPj _ _ (E.get hpr' j d h1 h2 h3 h4);rw[jB hg h1 he,<-hC];cases hc:C with
 | true=>
  rw[if_pos rfl];obtain⟨f,args,hr,hcl⟩:=h a.eval w v hRw E hpr' hc;unfold Oper.wp;rw[hr];refine Calls.mono hcl ?_;rintro e w' ⟨rfl,h9⟩;have:=hp w';rw[hc]at this;exact⟨u,rfl,h9,this⟩
 | false=>
  rw[if_neg (by simp)];have:=hp w;rw[hc]at this;exact this
theorem OpOk.ret{a0:Act}{w0:World}{R:World->World->Prop}{Pr:Nat->Value->World->Prop}{i:Nat}{o:Oper}(u:Value)(hp:∀ w,Pr i u w)
  (h:∀ (ev:Operand->Value) (w:World) (v:Nat->Value),R w0 w->EvOk ops a0 o v ev->(∀ j,j<ops.size->aK o j=true->Pr j (v j) w)->∃ f args,(execOp ev o).run P w=.ok (.enter f args) w/\Calls P f args w fun e w'=>e=.returned u/\R w w') (hg:o.guard=none:=by rfl):OpOk P ops a0 w0 R Pr i o:=
 OpOk.call hg fun ev w v hR E pr=>by
  obtain⟨f,args,hr,hc⟩:=h ev w v hR E pr;exact⟨f,args,hr,hc.mono fun e w' h=>⟨u,h.1,h.2,hp w'⟩⟩
end
section
variable {P:Program} {ops:Array Oper} {a0:Act} {i:Nat} {o:Oper} {Pr:Nat->Value->World->Prop} {w0:World} {u x y:Value} {A B:Prop}
theorem nt:True:=trivial
theorem ow(d:Nat)(hp:Pr i u=fun _=>u=u:=by exact rfl)
  (h:∀ (ev:Operand->Value) (w:World),(∀ c,ev (.const c)=c)->ev (.tmp d)=a0.eval (.tmp d)->(execOp ev o).run P w=.ok (.value u) w:=by intro ev w c e;simp[go_sem,c,e])
  (hn:iN ops d=true:=by kernel_rfl) (hg:o.guard=none:=by rfl):OpOk P ops a0 w0 RB Pr i o:=oq hp (fun ev w v hR E pr=>h ev w E.con (E.old d hn)) hg
theorem mQ(j d:Nat)(q:A)(hp:Pr i u=fun _=>u=u:=by exact rfl)(hx:∀ v w,Pr j v w->v=x:=by exact fun _ _ h=>h)
  (h:∀ (ev:Operand->Value) (w:World),(∀ c,ev (.const c)=c)->ev (.tmp d)=x->A->(execOp ev o).run P w=.ok (.value u) w:=by intro ev w c e q;simp[go_sem,c,e,q])
  (h1:(ops[j]?).bind (·.dst)=some d:=by rfl) (h2:aK o j=true:=by kernel_rfl) (h3:Nat.blt d a0.tmps.size=true:=by kernel_rfl) (h4:Nat.blt j ops.size=true:=by kernel_rfl)
  (hg:o.guard=none:=by rfl):OpOk P ops a0 w0 RB Pr i o:=oq hp (fun ev w v hR E pr=>h ev w E.con (E.eq pr j d (fun u=>hx u w) h1 h2 h3 h4) q) hg
theorem o1(j d:Nat)(hp:Pr i u=fun _=>u=u:=by exact rfl)(hx:∀ v w,Pr j v w->v=x:=by exact fun _ _ h=>h)
  (h:∀ (ev:Operand->Value) (w:World),(∀ c,ev (.const c)=c)->ev (.tmp d)=x->(execOp ev o).run P w=.ok (.value u) w:=by intro ev w c e;simp[go_sem,c,e])
  (h1:(ops[j]?).bind (·.dst)=some d:=by rfl) (h2:aK o j=true:=by kernel_rfl) (h3:Nat.blt d a0.tmps.size=true:=by kernel_rfl) (h4:Nat.blt j ops.size=true:=by kernel_rfl)
  (hg:o.guard=none:=by rfl):OpOk P ops a0 w0 RB Pr i o:=mQ j d trivial hp hx (fun ev w c e _=>h ev w c e) h1 h2 h3 h4 hg
theorem oc{C:World->Prop}(j d:Nat)(h0:∀ w,RB w0 w->C w)(hp:Pr i u=fun _=>u=u:=by exact rfl)(hx:∀ v w,Pr j v w->v=x:=by exact fun _ _ h=>h)
  (h:∀ (ev:Operand->Value) (w:World),(∀ c,ev (.const c)=c)->ev (.tmp d)=x->C w->(execOp ev o).run P w=.ok (.value u) w:=by intro ev w c e cc;simp[lf]at cc;simp[go_sem,cc,c,e])
  (h1:(ops[j]?).bind (·.dst)=some d:=by rfl) (h2:aK o j=true:=by kernel_rfl) (h3:Nat.blt d a0.tmps.size=true:=by kernel_rfl) (h4:Nat.blt j ops.size=true:=by kernel_rfl)
  (hg:o.guard=none:=by rfl):OpOk P ops a0 w0 RB Pr i o:=oq hp (fun ev w v hR E pr=>h ev w E.con (E.eq pr j d (fun u=>hx u w) h1 h2 h3 h4) (h0 w hR)) hg
theorem zS(j d k dk:Nat)(q:A)(hp:Pr i u=fun _=>u=u:=by exact rfl)(hx:∀ v w,Pr j v w->v=x:=by exact fun _ _ h=>h)(hy:∀ v w,Pr k v w->v=y:=by exact fun _ _ h=>h)
  (h:∀ (ev:Operand->Value) (w:World),(∀ c,ev (.const c)=c)->ev (.tmp d)=x->ev (.tmp dk)=y->A->(execOp ev o).run P w=.ok (.value u) w:=by intro ev w c e f q;simp[go_sem,c,e,f,q])
  (h1:(ops[j]?).bind (·.dst)=some d:=by rfl) (h2:aK o j=true:=by kernel_rfl) (h3:Nat.blt d a0.tmps.size=true:=by kernel_rfl) (h4:Nat.blt j ops.size=true:=by kernel_rfl)
  (k1:(ops[k]?).bind (·.dst)=some dk:=by rfl) (k2:aK o k=true:=by kernel_rfl) (k3:Nat.blt dk a0.tmps.size=true:=by kernel_rfl) (k4:Nat.blt k ops.size=true:=by kernel_rfl)
  (hg:o.guard=none:=by rfl):OpOk P ops a0 w0 RB Pr i o:=oq hp (fun ev w v hR E pr=>h ev w E.con (E.eq pr j d (fun u=>hx u w) h1 h2 h3 h4) (E.eq pr k dk (fun u=>hy u w) k1 k2 k3 k4) q) hg
theorem ob(j d k dk:Nat)(s:Bool)(q:A)(r:B)(hp:Pr i u=fun _=>u=u:=by exact rfl)(hx:∀ v w,Pr j v w->v=x:=by exact fun _ _ h=>h)(hy:∀ v w,Pr k v w->v=y:=by exact fun _ _ h=>h)
  (h:∀ (ev:Operand->Value) (w:World),(∀ c,ev (.const c)=c)->ev (.tmp d)=x->ev (.tmp dk)=y->A->B->(execOp ev o).run P w=.ok (.value u) w:=by intro ev w c e f q r;rcases bq s with hs|hs<;>simp[go_sem,c,q,gv,r,e,f,hs])
  (h1:(ops[j]?).bind (·.dst)=some d:=by rfl) (h2:aK o j=true:=by kernel_rfl) (h3:Nat.blt d a0.tmps.size=true:=by kernel_rfl) (h4:Nat.blt j ops.size=true:=by kernel_rfl)
  (k1:(ops[k]?).bind (·.dst)=some dk:=by rfl) (k2:aK o k=true:=by kernel_rfl) (k3:Nat.blt dk a0.tmps.size=true:=by kernel_rfl) (k4:Nat.blt k ops.size=true:=by kernel_rfl)
  (hg:o.guard=none:=by rfl):OpOk P ops a0 w0 RB Pr i o:=oq hp (fun ev w v hR E pr=>h ev w E.con (E.eq pr j d (fun u=>hx u w) h1 h2 h3 h4) (E.eq pr k dk (fun u=>hy u w) k1 k2 k3 k4) q r) hg
variable {b Cj bj C:Bool}
theorem gw(j d:Nat)(hC:C=(Cj&&(bj==b)))(k:Nat)(q:A)(hPj:∀ v w,Pr j v w->v=gv Cj (.bool bj):=by exact fun _ _ h=>h)(hp:∀ w,Pr i (gv C u) w:=by exact fun _=>rfl)
  (h:∀ (ev:Operand->Value) (w:World),C=true->C=(Cj&&(bj==b))->(∀ c,ev (.const c)=c)->ev (.tmp k)=a0.eval (.tmp k)->A->(execOp ev o).run P w=.ok (.value u) w:=by intro ev w hC hc c e q;simp[go_sem,gv,hC,hc,c,e,q])
  (hn:iN ops k=true:=by kernel_rfl) (hg:o.guard=some (j,b):=by rfl) (h1:(ops[j]?).bind (·.dst)=some d:=by rfl) (h2:aK o j=true:=by kernel_rfl) (h3:Nat.blt d a0.tmps.size=true:=by kernel_rfl) (h4:Nat.blt j ops.size=true:=by kernel_rfl):OpOk P ops a0 w0 RB Pr i o:=
 OpOk.gd rr j d b Cj bj hPj C hC u hp (fun ev w v hR E pr hc=>h ev w hc hC E.con (E.old k hn) q) hg h1 h2 h3 h4
theorem g1(j d:Nat)(hC:C=(Cj&&(bj==b)))(k dk:Nat)(q:A)(hPj:∀ v w,Pr j v w->v=gv Cj (.bool bj):=by exact fun _ _ h=>h)(hp:∀ w,Pr i (gv C u) w:=by exact fun _=>rfl)(hx:∀ v w,Pr k v w->v=x:=by exact fun _ _ h=>h)
  (h:∀ (ev:Operand->Value) (w:World),C=true->C=(Cj&&(bj==b))->(∀ c,ev (.const c)=c)->ev (.tmp dk)=x->A->(execOp ev o).run P w=.ok (.value u) w:=by intro ev w hC hc c e q;simp[go_sem,gv,hC,hc,c,e,q])
  (k1:(ops[k]?).bind (·.dst)=some dk:=by rfl) (k2:aK o k=true:=by kernel_rfl) (k3:Nat.blt dk a0.tmps.size=true:=by kernel_rfl) (k4:Nat.blt k ops.size=true:=by kernel_rfl)
  (hg:o.guard=some (j,b):=by rfl) (h1:(ops[j]?).bind (·.dst)=some d:=by rfl) (h2:aK o j=true:=by kernel_rfl) (h3:Nat.blt d a0.tmps.size=true:=by kernel_rfl) (h4:Nat.blt j ops.size=true:=by kernel_rfl):OpOk P ops a0 w0 RB Pr i o:=
 OpOk.gd rr j d b Cj bj hPj C hC u hp (fun ev w v hR E pr hc=>h ev w hc hC E.con (E.eq pr k dk (fun u=>hx u w) k1 k2 k3 k4) q) hg h1 h2 h3 h4
theorem g2(j d:Nat)(hC:C=(Cj&&(bj==b)))(k dk m dm:Nat)(q:A)(hPj:∀ v w,Pr j v w->v=gv Cj (.bool bj):=by exact fun _ _ h=>h)(hp:∀ w,Pr i (gv C u) w:=by exact fun _=>rfl)(hx:∀ v w,Pr k v w->v=x:=by exact fun _ _ h=>h)(hy:∀ v w,Pr m v w->v=y:=by exact fun _ _ h=>h)
  (h:∀ (ev:Operand->Value) (w:World),C=true->C=(Cj&&(bj==b))->(∀ c,ev (.const c)=c)->ev (.tmp dk)=x->ev (.tmp dm)=y->A->(execOp ev o).run P w=.ok (.value u) w:=by intro ev w hC hc c e f q;simp[go_sem,gv,hC,hc,c,e,f,q])
  (k1:(ops[k]?).bind (·.dst)=some dk:=by rfl) (k2:aK o k=true:=by kernel_rfl) (k3:Nat.blt dk a0.tmps.size=true:=by kernel_rfl) (k4:Nat.blt k ops.size=true:=by kernel_rfl)
  (m1:(ops[m]?).bind (·.dst)=some dm:=by rfl) (m2:aK o m=true:=by kernel_rfl) (m3:Nat.blt dm a0.tmps.size=true:=by kernel_rfl) (m4:Nat.blt m ops.size=true:=by kernel_rfl)
  (hg:o.guard=some (j,b):=by rfl) (h1:(ops[j]?).bind (·.dst)=some d:=by rfl) (h2:aK o j=true:=by kernel_rfl) (h3:Nat.blt d a0.tmps.size=true:=by kernel_rfl) (h4:Nat.blt j ops.size=true:=by kernel_rfl):OpOk P ops a0 w0 RB Pr i o:=
 OpOk.gd rr j d b Cj bj hPj C hC u hp (fun ev w v hR E pr hc=>h ev w hc hC E.con (E.eq pr k dk (fun u=>hx u w) k1 k2 k3 k4) (E.eq pr m dm (fun u=>hy u w) m1 m2 m3 m4) q) hg h1 h2 h3 h4
theorem gc{D:World->Prop}(j d:Nat)(hC:C=(Cj&&(bj==b)))(k dk:Nat)(h0:∀ w,RB w0 w->D w)(hPj:∀ v w,Pr j v w->v=gv Cj (.bool bj):=by exact fun _ _ h=>h)(hp:∀ w,Pr i (gv C u) w:=by exact fun _=>rfl)(hx:∀ v w,Pr k v w->v=x:=by exact fun _ _ h=>h)
  (h:∀ (ev:Operand->Value) (w:World),C=true->C=(Cj&&(bj==b))->(∀ c,ev (.const c)=c)->ev (.tmp dk)=x->D w->(execOp ev o).run P w=.ok (.value u) w:=by intro ev w hC hc c e cc;simp[lf]at cc;simp[go_sem,gv,hC,hc,cc,c,e])
  (k1:(ops[k]?).bind (·.dst)=some dk:=by rfl) (k2:aK o k=true:=by kernel_rfl) (k3:Nat.blt dk a0.tmps.size=true:=by kernel_rfl) (k4:Nat.blt k ops.size=true:=by kernel_rfl)
  (hg:o.guard=some (j,b):=by rfl) (h1:(ops[j]?).bind (·.dst)=some d:=by rfl) (h2:aK o j=true:=by kernel_rfl) (h3:Nat.blt d a0.tmps.size=true:=by kernel_rfl) (h4:Nat.blt j ops.size=true:=by kernel_rfl):OpOk P ops a0 w0 RB Pr i o:=
 OpOk.gd rr j d b Cj bj hPj C hC u hp (fun ev w v hR E pr hc=>h ev w hc hC E.con (E.eq pr k dk (fun u=>hx u w) k1 k2 k3 k4) (h0 w hR)) hg h1 h2 h3 h4
end
end
section
open Go.RowKit
def nr(T:Nat->Int)(X:Nat->ByteArray)(j:Nat):Value:=if j%2=0 then .int .i64 (T (j / 2)) else .string (X (j / 2))
theorem GJ(T:Nat->Int)(X:Nat->ByteArray)(k:Nat):nr T X (k*2)=.int .i64 (T k):=by
 unfold nr;rw[if_pos (by omega)];congr 2;omega
theorem GK(T:Nat->Int)(X:Nat->ByteArray)(k:Nat):nr T X (k*2+1)=.string (X k):=by
 unfold nr;rw[if_neg (by omega)];congr 2;omega
theorem X6{T T':Nat->Int}{X X':Nat->ByteArray}{n:Nat}(e1:∀ k,k<n->T k=T' k)(e2:∀ k,k<n->X k=X' k)(j:Nat)(hj:j<n*2):nr T X j=nr T' X' j:=by
 unfold nr
 split
 ·rw[e1 _ (by omega)]
 ·rw[e2 _ (by omega)]
def NRow(w:World)(ao:Option Addr)(n:Nat)(T:Nat->Int)(X:Nat->ByteArray):Prop:=∀ k,k<n->∃ b o,ao=some ⟨b,o,none⟩ ∧
 w.cell? ⟨b,o+k*2,none⟩=some (.int .i64 (T k))/\w.cell? ⟨b,o+k*2+1,none⟩=some (.string (X k))
theorem NRow.below{w w':World}{B:Nat}{ao:Option Addr}{n:Nat}{T:Nat->Int}{X:Nat->ByteArray}(h:NRow w ao n T X)(hb:Below B w w')(hB:w.heap.size<=B):NRow w' ao n T X:=fun k hk=>by
 obtain⟨b,o,e,c0,c1⟩:=h k hk;have hlt:=dB c0;exact⟨b,o,e,by rw[hb.cell (by simp;omega)];exact c0,by rw[hb.cell (by simp;omega)];exact c1⟩
theorem NRow.alloc{w:World}{ao:Option Addr}{n:Nat}{T:Nat->Int}{X:Nat->ByteArray}(h:NRow w ao n T X)(o:Obj):NRow (w.alloc o) ao n T X:=h.below ((Below.refl w.heap.size w).alloc nl o) nl
theorem NRow.less{w:World}{ao:Option Addr}{n m:Nat}{T:Nat->Int}{X:Nat->ByteArray}(h:NRow w ao n T X)(hm:m<=n):NRow w ao m T X:=fun k hk=>h k (by omega)
abbrev DP(w:World)(b n:Nat)(T:Nat->Int)(X:Nat->ByteArray):Prop:=VHas w b 47 (n*2) (nr T X)
theorem pB{w:World}{b n:Nat}{T:Nat->Int}{X:Nat->ByteArray}(h:DP w b n T X):NRow w (some ⟨b,0,none⟩) n T X:=fun k hk=>by
 refine⟨b,0,rfl,?_,?_⟩
 ·have:=h.cell (j:=k*2) (by omega);rw[GJ]at this;simpa using this
 ·have:=h.cell (j:=k*2+1) (by omega);rw[GK]at this;simpa using this
theorem Tryz.infoEntry:(Tryz.prog.info? 47).map (fun i=>(i.zero,i.size,i.bytes))=some (some (.agg #[.int .i64 0,.string ByteArray.empty]),2,24):=by kernel_rfl
end
end Go.Proofs.YtbabakgjkloabaaGreatDoor
