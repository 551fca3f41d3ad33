/-
  Helpers: ClD, Cl1, Cl2, EntA, MrgS, MrgO, FitL, NewT, Ordg.
-/
import Derived.Test.YtbabakgjkloabaaGreatDoorPack10
import Derived.Test.YtbabakgjkloabaaGreatDoorPack17
import Derived.Test.YtbabakgjkloabaaGreatDoorPack1
import Derived.Test.YtbabakgjkloabaaGreatDoorPack12
import Derived.Test.YtbabakgjkloabaaGreatDoorPack8
import Derived.Test.YtbabakgjkloabaaGreatDoorPack11
import Derived.Test.YtbabakgjkloabaaGreatDoorPack2
import Derived.Test.YtbabakgjkloabaaGreatDoorPack15
import Derived.Test.YtbabakgjkloabaaGreatDoorPack7
import Derived.Test.YtbabakgjkloabaaGreatDoorPack13
set_option linter.unusedVariables false
set_option linter.unusedSimpArgs false
namespace Go.Proofs.YtbabakgjkloabaaGreatDoor
section
open Go Go.RowKit
theorem run_storeLo {P:Program} {b n:Nat} {t:TypeId} (o:Nat):∀ (vs:List Value) (k:Nat) (W:World) (f:Nat->Value),VHas W b t n f->o+k+vs.length<=n->(∀ v∈vs,v.oneCell'=true)->(storeCells ⟨b,o,none⟩ vs k).run P W=.ok () (setL W b (o+k) vs)
 | [],k,W,f,_,_,_=>by simp[storeCells,setL]
 | v :: vs,k,W,f,h,hk,hv=>by
  have e1:(⟨b,o,none⟩:Addr).add k=⟨b,o+k,none⟩:=by rw[Addr.add_mid]
  have c1:=h.cell (j:=o+k) (by simp at hk;omega);have z1:=h.frozen (o+k);have ih:=run_storeLo (P:=P) o vs (k+1) _ _ (h.set (o+k) v) (by simp at hk;omega) (fun u hu=>hv u (List.mem_cons_of_mem _ hu))
  show Sem.run P (store ((⟨b,o,none⟩:Addr).add k) v >>= fun _=>storeCells ⟨b,o,none⟩ vs (k+1)) W = _
  rw[Sem.run_bind,e1,run_store P W _ v _ (hv v (List.mem_cons_self ..)),c1];simp only[z1];exact ih
theorem exec_boxAt {P:Program} {o:Oper} {ev:Operand->Value} {ty:TypeId} {x y:Operand} {b k n:Nat} {t:TypeId} {f:Nat->Value} {W:World} (vs:List Value) (ho:o.op=.store ty x y) (hx:ev x=.pointer (some ⟨b,k,none⟩)) (hy:ev y=.agg vs.toArray) (hb:VHas W b t n f) (hk:k+vs.length<=n) (hi:(P.info? ty).map (·.size)=some vs.length) (hv:∀ v∈vs,v.oneCell'=true):(execOp ev o).run P W=.ok .skip (setL W b k vs):=by
 have hrun:(storeVar ty ⟨b,k,none⟩ (.agg vs.toArray)).run P W=.ok () (setL W b k vs):=by
  cases hq:P.info? ty with
  | none=>simp[hq]at hi
  | some i=>
   have hs:i.size=vs.length:=by simpa[hq] using hi
   have hr:=run_storeLo (P:=P) k vs 0 W f hb (by omega) hv;simp[storeVar,sizeOf,typeInfo,hq,Value.cells,hs,hr]
 unfold execOp;simp only[ho,hx,hy,Instr.storeAt,Instr.sureAddr,Sem.run_bind,Sem.run_pure,Result.andThen_ok,hrun]
theorem GOwn.setL {base:Nat} {t:TypeId} {size g n cap:Nat}:∀ (vs:List Value) (k:Nat) (w:World) (f:Nat->Value),GOwn w base t size (some ⟨g,0,none⟩) n cap f->k+vs.length<=n*size->GOwn (Go.Proofs.YtbabakgjkloabaaGreatDoor.setL w g k vs) base t size (some ⟨g,0,none⟩) n cap (fun j=>if k<=j/\j<k+vs.length then lf vs (j-k) else f j)
 | [],k,w,f,h,_=>GOwn.congr h (fun j hj=>by rw[if_neg (fun q=>by simp at q;omega)])
 | v :: vs,k,w,f,h,hk=>by
  have h1:=GOwn.setL vs (k+1) _ _ (GOwn.set h k (by simp at hk;omega) v) (by simp at hk;omega);refine GOwn.congr h1 (fun j hj=>?_)
  by_cases e:j=k
  ·subst e
   rw[if_neg (by omega),if_pos rfl,if_pos (by simp),Nat.sub_self];rfl
  ·by_cases c:k+1<=j/\j<k+1+vs.length
   ·rw[if_pos c,if_pos (by simp;omega)]
    have:j-k=(j-(k+1))+1:=by omega
    rw[this];rfl
   ·rw[if_neg c,if_neg e,if_neg (by simp;omega)]
theorem clc_set:∀ (l:List Nq) (i:Nat) (z:Nq) (j:Nat),i<l.length->lf (clc (l.set i z)) j=if i*10<=j/\j<i*10+10 then lf (ndL z.n z.s) (j-i*10) else lf (clc l) j
 | [],i,z,j,h=>by simp at h
 | q :: r,0,z,j,h=>by
  simp only[List.set_cons_zero,clc,lf_app,List.length_cons,List.length_nil,Nat.zero_mul,Nat.zero_le,true_and,Nat.zero_add,Nat.sub_zero,Nat.reduceAdd]
  split<;>rfl
 | q :: r,i+1,z,j,h=>by
  simp only[List.set_cons_succ,clc,lf_app,List.length_cons,List.length_nil,Nat.zero_add,Nat.reduceAdd]
  by_cases c:j<10
  ·rw[if_pos c,if_neg (by omega),if_pos c]
  ·rw[if_neg c,if_neg c,clc_set r i z (j-10) (by simpa using h)]
   by_cases d:i*10<=j-10/\j-10<i*10+10
   ·rw[if_pos d,if_pos (by omega)]
    congr 1
    omega
   ·rw[if_neg d,if_neg (by omega)]
theorem nlc_at:∀ {l:List Mq} {k j:Nat} {q:Mq},l[k]?=some q->j<9->(nlc l)[k*9+j]?=(msL q.m q.eo q.ec)[j]?
 | [],k,j,q,h,_=>by simp at h
 | p :: r,0,j,q,h,hj=>by
  obtain rfl:p=q:=by simpa using h
  simp only[nlc,Nat.zero_mul,Nat.zero_add];rw[List.getElem?_append_left (by simpa using hj)]
 | p :: r,k+1,j,q,h,hj=>by
  have:=nlc_at (l:=r) (k:=k) (j:=j) (q:=q) (by simpa using h) hj;simp only[nlc];rw[List.getElem?_append_right (by simp;omega),<-this]
  congr 1
  simp;omega
theorem nlc_row {w:World} {l:List Mq} {b o k:Nat} {q:Mq} {t:TypeId} (h:LRow w t (some ⟨b,o,none⟩) (nlc l)) (hk:l[k]?=some q) (j:Nat) (hj:j<9):w.cell? ⟨b,o+k*9+j,none⟩=some (lf (msL q.m q.eo q.ec) j):=by
 have hlt:k<l.length:=by
  rcases Nat.lt_or_ge k l.length with z|z
  ·exact z
  ·rw[List.getElem?_eq_none z]at hk;cases hk
 obtain⟨b',o',e,_,hc⟩:=h (fun z=>by have:=nlc_len l;rw[z]at this;simp at this;omega);cases e;have e1:=nlc_at hk hj
 have e2:(msL q.m q.eo q.ec)[j]?=some (lf (msL q.m q.eo q.ec) j):=by
  have hj2:j<(msL q.m q.eo q.ec).length:=hj;simp only[lf,List.getD_eq_getElem?_getD];rw[List.getElem?_eq_getElem hj2];rfl
 rw[e2]at e1;have:=hc _ _ e1;rw[<-Nat.add_assoc]at this;exact this
theorem exec_ndAt {o:Oper} {ev:Operand->Value} {x:Operand} {g k cap base:Nat} {W:World} {l:List Nq} {z:Nq} (ho:o.op=.load 27 x) (hx:ev x=.pointer (some ⟨g,k*10,none⟩)) (h:GOwn W base 27 10 (some ⟨g,0,none⟩) l.length cap (lf (clc l))) (hk:l[k]?=some z):(execOp ev o).run Tryz.prog W=.ok (.value (ndV z.n z.s)) W:=by
 have hr:=GOwn.lrow h (clc_len l);have c0:=clc_row hr hk 0 (by omega);have c1:=clc_row hr hk 1 (by omega);have c2:=clc_row hr hk 2 (by omega);have c3:=clc_row hr hk 3 (by omega);have c4:=clc_row hr hk 4 (by omega);have c5:=clc_row hr hk 5 (by omega);have c6:=clc_row hr hk 6 (by omega);have c7:=clc_row hr hk 7 (by omega);have c8:=clc_row hr hk 8 (by omega);have c9:=clc_row hr hk 9 (by omega);simp[lf]at c0 c1 c2 c3 c4 c5 c6 c7 c8 c9;unfold execOp;simp[ho,hx,go_sem,c0,c1,c2,c3,c4,c5,c6,c7,c8,c9]
theorem exec_msAt {o:Oper} {ev:Operand->Value} {x:Operand} {g k cap base:Nat} {W:World} {l:List Mq} {z:Mq} (ho:o.op=.load 29 x) (hx:ev x=.pointer (some ⟨g,k*9,none⟩)) (h:GOwn W base 29 9 (some ⟨g,0,none⟩) l.length cap (lf (nlc l))) (hk:l[k]?=some z):(execOp ev o).run Tryz.prog W=.ok (.value (msV z.m z.eo z.ec)) W:=by
 have hr:=GOwn.lrow h (nlc_len l);have c0:=nlc_row hr hk 0 (by omega);have c1:=nlc_row hr hk 1 (by omega);have c2:=nlc_row hr hk 2 (by omega);have c3:=nlc_row hr hk 3 (by omega);have c4:=nlc_row hr hk 4 (by omega);have c5:=nlc_row hr hk 5 (by omega);have c6:=nlc_row hr hk 6 (by omega);have c7:=nlc_row hr hk 7 (by omega);have c8:=nlc_row hr hk 8 (by omega);simp[lf]at c0 c1 c2 c3 c4 c5 c6 c7 c8;unfold execOp;simp[ho,hx,go_sem,c0,c1,c2,c3,c4,c5,c6,c7,c8]
structure ClB (w:World) (b base:Nat) (l:List Nq) (q:List Mq) (ao:Option Addr) (cap:Nat) (eo:Option Addr) (ec:Nat):Prop where
 x:VHas w b 54 2 (lf [.slice ao l.length cap,.slice eo q.length ec])
 n:GOwn w base 27 10 ao l.length cap (lf (clc l))
 m:NetO w base eo ec q
 nl:∀ z∈l,NdO w base z.n z.s
structure ClP (l:List Nq) (q:List Mq):Prop where
 len:1<=l.length/\l.length<=5
 ok:∀ (i:Nat) (z:Nq),l[i]?=some z->OkN z.n/\z.n.id=i/\z.n.peers=l.length/\TxL z.n.log
 net:q.length<=200
 ms:∀ z∈q,MsW z.m
section
variable {w w':World} {b base cap ec:Nat} {l:List Nq} {q:List Mq} {ao eo:Option Addr}
theorem ClB.next (h:ClB w b base l q ao cap eo ec) (hb:RB w w'):ClB w' b base l q ao cap eo ec:=⟨VHas.next h.x hb,GOwn.next h.n hb,h.m.next hb,fun z hz=>(h.nl z hz).next hb⟩
theorem NetO.gr {row:Option Nat} {u:TypeId} (h:NetO w base eo ec q) (hg:w.grownBy w' row) (hx:∀ x,row=some x->Typed w x u) (h1:29≠u) (h2:47≠u):NetO w' base eo ec q:=⟨GOwn.gr h.o hg hx h1,fun z hz=>OwE.gr (h.e z hz) hg hx h2⟩
theorem ClB.gr {row:Option Nat} {u:TypeId} (h:ClB w b base l q ao cap eo ec) (hg:w.grownBy w' row) (hx:∀ x,row=some x->Typed w x u) (h1:54≠u) (h2:27≠u) (h3:29≠u) (h4:47≠u) (h5:2≠u):ClB w' b base l q ao cap eo ec:=⟨VHas.gr h.x hg hx h1,GOwn.gr h.n hg hx h2,h.m.gr hg hx h3 h4,fun z hz=>(h.nl z hz).gr hg hx h4 h5⟩
theorem ClB.cur {c:Nat} (h:ClB w b base l q ao cap eo ec) (hg:w.grownBy w' (some c)) (hx:Typed w c 83):ClB w' b base l q ao cap eo ec:=h.gr hg (fun x e=>by cases e;exact hx) (by decide) (by decide) (by decide) (by decide) (by decide)
end
theorem ClP.at {l:List Nq} {q:List Mq} (h:ClP l q) {i:Nat} {z:Nq} (hz:l[i]?=some z):NdZ z.n z.s↔(z.n.log.length<=z.s.lc/\z.n.votes.length<=z.s.vc/\z.n.next.length<=z.s.nc/\z.n.mat.length<=z.s.mc):=by
 obtain⟨h1,_,_,h4⟩:=h.ok i z hz;have hf:=h1.few;exact⟨fun k=>⟨k.lc,k.vc,k.xc,k.mc⟩,fun ⟨k1,k2,k3,k4⟩=>⟨by omega,by omega,by omega,by omega,k1,k2,k3,k4,h4⟩⟩
theorem OkN.zz {n:Nd} {s:NdS} (h:OkN n) (ht:TxL n.log) (k:NdK n s):NdZ n s:=by
 have hf:=h.few;exact⟨by omega,by omega,by omega,by omega,k.l,k.v,k.x,k.m,ht⟩
theorem ClP.put {l:List Nq} {q:List Mq} (h:ClP l q) {i:Nat} {z:Nq} (z':Nq) (hz:l[i]?=some z) (h1:OkN z'.n) (h2:z'.n.id=z.n.id) (h3:z'.n.peers=z.n.peers) (h4:TxL z'.n.log):ClP (l.set i z') q:=by
 refine⟨by rw[List.length_set];exact h.len,fun k y hy=>?_,h.net,h.ms⟩;rw[List.length_set];rw[List.getElem?_set]at hy
 split at hy
 ·next e=>
  split at hy
  ·subst e
   obtain rfl:=Option.some.inj hy;obtain⟨_,g2,g3,_⟩:=h.ok i z hz;exact⟨h1,h2.trans g2,h3.trans g3,h4⟩
  ·cases hy
 ·exact h.ok k y hy
theorem nd_get {l:List Nq} {i:Nat} (h:i<l.length):∃ z,l[i]?=some z:=⟨l[i],by simp[h]⟩
theorem ClB.at {w:World} {b base cap ec:Nat} {l:List Nq} {q:List Mq} {ao eo:Option Addr} (h:ClB w b base l q ao cap eo ec) (hl:1<=l.length):∃ g,ao=some ⟨g,0,none⟩/\base<=g/\VHas w g 27 (l.length*10) (lf (clc l)):=GOwn.vhas h.n hl
theorem ClB.put {w:World} {b base cap ec g:Nat} {l:List Nq} {q:List Mq} {eo:Option Addr} (h:ClB w b base l q (some ⟨g,0,none⟩) cap eo ec) {i:Nat} (hi:i<l.length) (z':Nq) (hz':NdO w base z'.n z'.s):ClB (setL w g (i*10) (ndL z'.n z'.s)) b base (l.set i z') q (some ⟨g,0,none⟩) cap eo ec:=by
 have hg:=gr_setL g (ndL z'.n z'.s) (i*10) w;have hT:∀ x,some g=some x->Typed w x 27:=fun x e=>GOwn.typed h.n (x:=x) (by cases e;rfl)
 refine⟨by rw[List.length_set];exact VHas.gr h.x hg hT (by decide),?_,h.m.gr hg hT (by decide) (by decide),fun y hy=>?_⟩
 ·rw[List.length_set]
  refine GOwn.congr (GOwn.setL (ndL z'.n z'.s) (i*10) w _ h.n (by show i*10+10<=l.length*10;omega)) (fun j hj=>?_);exact (clc_set l i z' j hi).symm
 ·rcases List.mem_or_eq_of_mem_set hy with hy|rfl
  ·exact (h.nl y hy).gr hg hT (by decide) (by decide)
  ·exact hz'.gr hg hT (by decide) (by decide)
end
section
open Go Go.RowKit
attribute [local go_sem ↓] Go.wp_at_zero Go.wp_at_succ
set_option maxRecDepth 100000 in
set_option maxHeartbeats 8000000 in
theorem l12Message_any (m:Ms) (eo:Option Addr) (ec:Nat) (hl:m.ents.length<=1048576) (w:World) (hE:LRow w 47 eo (elc m.ents)):Calls Tryz.prog 98 #[msV m eo ec] w fun e w'=>MgV w.heap.size m (match e with | .returned v=>v|_=>undef) w'/\(∃ v,e=.returned v)/\RB w w':=by
 have hb:=RB.trans _ _ _ (RB.alloc w (.cells (msL m eo ec).toArray 29)) (RB.alloc _ (.cells (msL ms0 none 0).toArray 29));have vA:MsB _ w.heap.size m eo ec:=VHas.next (msB_new w m eo ec) (RB.alloc _ (.cells (msL ms0 none 0).toArray 29));have vR:=msB_new (w.alloc (.cells (msL m eo ec).toArray 29)) ms0 none 0;rw[World.size_alloc]at vR;go_enter Tryz.func98,Tryz.ntmps98;refine wp_seq_h' fun K0 hK0=>?_
 go_wp2;refine hK0.out _ _ ?_;clear hK0;have hsR:w.heap.size+1 < _:=vR.lt;generalize ((w.alloc _).alloc _)=W0 at hb vA vR hsR ⊢;have hal:=RB.alloc W0 (.cells #[] 47);have hE0:GOwn (W0.alloc (.cells #[] 47)) W0.heap.size 47 2 (some ⟨W0.heap.size,0,none⟩) 0 0 (fun _=>undef):=GOwn.empty W0 47 2 _;have wA:MsB (W0.alloc (.cells #[] 47)) w.heap.size m eo ec:=VHas.next vA hal;have wR:MsB (W0.alloc (.cells #[] 47)) (w.heap.size+1) ms0 none 0:=VHas.next vR hal;have wb:=RB.trans _ _ _ hb hal;have hr:GRow (W0.alloc (.cells #[] 47)) eo (m.ents.length*2) (lf (elc m.ents)):=LRow.g (hE.next wb) (by rw[elc_len]);have hsz:W0.heap.size<=(W0.alloc (.cells #[] 47)).heap.size:=hal.size;obtain⟨g0,g1,g2,g3,g4,g5,g6,g7,g8⟩:=cM wA
 go_wp2_with (first|(at_builtin;(with_reducible refine wpList_cat0 rfl (.tmp 3) (.tmp 5) Tryz.elEnQ rfl 6 rfl W0.heap.size W0.heap.size _ (by simp[go_sem]) hE0 eo m.ents.length ec (lf (elc m.ents)) (by simp[go_sem]) hr (elc_one m.ents) (by omega) hsz ?_);intro ao cap U hO hg;have xA:MsB U w.heap.size m eo ec:=VHas.grown wA hg (fun e=>by have:=Option.some.inj e;omega);have xR:MsB U (w.heap.size+1) ms0 none 0:=VHas.grown wR hg (fun e=>by have:=Option.some.inj e;omega);have xb:=gr_rb wb hg (by omega))|((with_reducible refine wC 24 (.tmp 7) (.tmp 6) w.heap.size 6 (.slice ao m.ents.length cap) xA ?_);intro X e6;have yA:MsB X w.heap.size m ao cap:=(by subst e6;exact MsB.put xA 6 (by omega) _ (by kernel_rfl));have hx:U.grownBy X (some w.heap.size):=(by subst e6;exact gr_setCell _ _ _ _);have yR:MsB X (w.heap.size+1) ms0 none 0:=VHas.grown xR hx (fun e=>by have:=Option.some.inj e;omega);have yO:GOwn X W0.heap.size 47 2 ao m.ents.length cap (lf (elc m.ents)):=GOwn.gr hO hx (fun z e=>by cases e;exact VHas.typed xA) (by decide);have yb:=gr_rb xb hx nl;clear e6 g0 g1 g2 g3 g4 g5 g6 g7 g8;obtain⟨g0,g1,g2,g3,g4,g5,g6,g7,g8⟩:=cM yA)|((with_reducible refine wB 29 (.tmp 2) (.tmp 8) (w.heap.size+1) (msL m ao cap) yR ?_);intro W9 hv9 hg9)|fail)
 clear g0 g1 g2 g3 g4 g5 g6 g7 g8;obtain⟨g0,g1,g2,g3,g4,g5,g6,g7,g8⟩:=VHas.c9 hv9 (by simp);simp[lf]at g0 g1 g2 g3 g4 g5 g6 g7 g8;refine bodyPost_ret (v:=msV m ao cap) (by simp[results,Tryz.results98,go_sem,g0,g1,g2,g3,g4,g5,g6,g7,g8]) rfl ?_;have hs0:w.heap.size<=W0.heap.size:=hb.size;exact⟨⟨ao,cap,rfl,GOwn.from (GOwn.gr yO hg9 (fun z e=>by cases e;exact VHas.typed yR) (by decide)) hs0⟩,⟨_,rfl⟩,gr_rb yb hg9 (by omega)⟩
theorem blw_row {B:Nat} {w W W':World} {row:Option Nat} (h:Below B w W) (hB:B<=w.heap.size) (hg:W.grownBy W' row) (hx:∀ x,row=some x->B<=x):Below B w W':=
 ⟨hg.os.trans h.os,hg.tape.trans h.tape,hg.output.trans h.output,Nat.le_trans h.size hg.size,fun k hk=>(hg.block k (by have:=h.size;omega) (fun q=>by have:=hx k q.symm;omega)).trans (h.block k hk)⟩
theorem blw_rb {B:Nat} {w W W':World} (h:Below B w W) (hB:B<=w.heap.size) (hb:RB W W'):Below B w W':=
 ⟨hb.os.trans h.os,hb.tape.trans h.tape,hb.output.trans h.output,Nat.le_trans h.size hb.size,fun k hk=>(hb.block k (by have:=h.size;omega)).trans (h.block k hk)⟩
def MgB (z:Mq) (v:Value) (w:World):Prop:=∃ B,v=.slice (some ⟨B,0,none⟩) 1 1/\MsB w B z.m z.eo z.ec
theorem MgB.rb {z:Mq} (v:Value) (w w':World) (h:MgB z v w) (hb:RB w w'):MgB z v w':=by
 obtain⟨B,e,h⟩:=h;exact⟨B,e,VHas.next h hb⟩
def NtA (base lb:Nat) (l:List Mq) (v:Value) (w:World):Prop:=∃ a c,v=.slice a l.length c/\NetO w base a c l/\∀ x,(Value.slice a l.length c).ownBlock=some x->x≠lb
theorem NtA.rb {base lb:Nat} {l:List Mq} (v:Value) (w w':World) (h:NtA base lb l v w) (hb:RB w w'):NtA base lb l v w':=by
 obtain⟨a,c,e,h,k⟩:=h;exact⟨a,c,e,h.next hb,k⟩
theorem appz_ok {o:Oper} {ev:Operand->Value} {x y:Operand} {base lb:Nat} {l:List Mq} {ao:Option Addr} {cap:Nat} {z:Mq} {w:World} (ho:o.op=.call { callee:=.builtin .append,args:=#[x,y],argTypes:=#[32,32] }) (hx:ev x=.slice ao l.length cap) (hN:NetO w base ao cap l) (hy:MgB z (ev y) w) (hz:OwE w base z.eo z.ec z.m.ents) (hl:l.length<=1000) (hb:base<=w.heap.size) (hlb:lb<w.heap.size) (hne:∀ x,(Value.slice ao l.length cap).ownBlock=some x->x≠lb):
  ∃ u w',(execOp ev o).run Tryz.prog w=.ok (.value u) w'/\NtA base lb (l++[z]) u w'/\w.grownBy w' (Value.slice ao l.length cap).ownBlock:=by
 obtain⟨B,e2,hB⟩:=hy
 have hgr:GRow w (some ⟨B,0,none⟩) (1*9) (fun j=>if j<9 then lf (msL z.m z.eo z.ec) j else .bool false):=fun _=>⟨B,0,rfl,fun j hj=>by
  have hj9:j<9:=by omega
  rw[Nat.zero_add,hB.cell hj9]
  simp only[if_pos hj9]⟩
 obtain⟨ao',cap',w',hrun,hown,hg,hd⟩:=run_app Tryz.elM w o.type base _ ao l.length cap hN.o (some ⟨B,0,none⟩) 1 1 _ hgr (fun j=>by
  by_cases q:j<9
  ·simp only[if_pos q];exact msL_one z j q
  ·simp only[if_neg q];rfl) (by omega) hb
 refine⟨_,w',exec_append ho hx e2 hrun,⟨ao',cap',by simp,?_,fun x e=>?_⟩,hg⟩
 ·exact hN.more hz hg (hown.congr (fun j hj=>by
   by_cases q:j<l.length*9
   ·rw[if_pos q,if_pos q]
   ·rw[if_neg q,if_neg q,if_pos (by omega)]))
 ·have e9:(Value.slice ao' (l.length+1) cap').ownBlock=some x:=by simpa using e
  rcases hd with hd|hd
  ·exact hne x (by rw[<-hd];exact e9)
  ·rw[hd]at e9
   have:=Option.some.inj e9;omega
structure SdP (w0:World) (b base H lb:Nat) (l:List Nq) (nq:Nat) (ao:Option Addr) (cap:Nat) (eo:Option Addr) (ec:Nat) (l2:List Mq) (lc:Nat) (W:World):Prop where
 x:VHas W b 54 2 (lf [.slice ao l.length cap,.slice eo nq ec])
 n:GOwn W base 27 10 ao l.length cap (lf (clc l))
 nl:∀ z∈l,NdO W base z.n z.s
 m2:NetO W H (some ⟨lb,0,none⟩) lc l2
 bl:Below base w0 W
section
variable {w0:World} {b base H lb:Nat} {l:List Nq} {nq:Nat} {ao:Option Addr} {cap:Nat} {eo:Option Addr} {ec:Nat} {l2:List Mq} {lc:Nat} {W W':World}
theorem SdP.next (h:SdP w0 b base H lb l nq ao cap eo ec l2 lc W) (hB:base<=w0.heap.size) (hb:RB W W'):SdP w0 b base H lb l nq ao cap eo ec l2 lc W':=⟨VHas.next h.x hb,GOwn.next h.n hb,fun z hz=>(h.nl z hz).next hb,h.m2.next hb,blw_rb h.bl hB hb⟩
theorem SdP.net (h:SdP w0 b base H lb l nq ao cap eo ec l2 lc W) (hB:base<=w0.heap.size) {row:Option Nat} (hg:W.grownBy W' row) (hx:∀ x,row=some x->base<=x/\Typed W x 29/\x≠lb):SdP w0 b base H lb l nq ao cap eo ec l2 lc W':=
 have hT:∀ x,row=some x->Typed W x 29:=fun x e=>(hx x e).2.1
 ⟨VHas.gr h.x hg hT (by decide),GOwn.gr h.n hg hT (by decide),fun z hz=>(h.nl z hz).gr hg hT (by decide) (by decide),⟨GOwn.grown h.m2.o hg (fun y e q=>by
  have e':lb=y:=Option.some.inj e
  exact (hx y q).2.2 e'.symm),fun z hz=>(h.m2.e z hz).gr hg hT (by decide)⟩,blw_row h.bl hB hg (fun x e=>(hx x e).1)⟩
end
def ClS (w:World) (b base:Nat) (l:List Nq) (ao:Option Addr) (cap:Nat):Prop:=∃ q eo ec,ClB w b base l q ao cap eo ec/\ClP l q
theorem OwE.from' {w:World} {base base':Nat} {ao:Option Addr} {cap:Nat} {l:List En} (h:OwE w base ao cap l) (hb:base'<=base):OwE w base' ao cap l:=GOwn.from h hb
theorem ClP.more {l:List Nq} {q:List Mq} {z:Mq} (h:ClP l q) (hq:q.length<200) (hz:MsW z.m):ClP l (q++[z]):=⟨h.len,h.ok,by simp;omega,fun y hy=>by
 rcases List.mem_append.1 hy with r|r
 ·exact h.ms y r
 ·rw[List.mem_singleton.1 r];exact hz⟩
set_option maxRecDepth 100000 in
set_option maxHeartbeats 8000000 in
theorem l12Send_any (b base H:Nat) (l:List Nq) (q0:List Mq) (ao:Option Addr) (cap:Nat) (eo0:Option Addr) (ec0:Nat) (l2:List Mq) (lo:Option Addr) (lc:Nat) (w:World) (hbs:base<=w.heap.size) (hbb:base<=b) (hH:base<=H) (hC:ClB w b base l q0 ao cap eo0 ec0) (hP0:ClP l q0) (hN:NetO w H lo lc l2) (h2:l2.length<=1000) (hms:∀ z∈l2,MsW z.m) (hne0:∀ x,(Value.slice eo0 q0.length ec0).ownBlock=some x->∀ y,lo=some ⟨y,0,none⟩->x≠y):Calls Tryz.prog 99 #[.pointer (some ⟨b,0,none⟩),.slice lo l2.length lc] w fun e w'=>e=.returned (.tuple #[])/\ClS w' b base l ao cap/\Below base w w':=by
 rcases Nat.eq_zero_or_pos l2.length with hz2|hp2
 ·have c0:=VHas.cell hC.x (j:=0) (by omega)
  have c1:=VHas.cell hC.x (j:=1) (by omega);simp[lf]at c0 c1;rw[hz2];go_enter Tryz.func99,Tryz.ntmps99;go_wp2
  go_loopw [4] (fun x wr=>x=.int .i64 0/\wr=w) (fun _ _=>0)
  case atStart=>exact⟨rfl,rfl⟩
  case round=>
   obtain⟨rfl,rfl⟩:=hrel;go_wp2;simp[bodyPost,results,Tryz.results99,go_sem];exact⟨⟨_,_,_,hC,hP0⟩,Below.refl _ _⟩
 obtain⟨lb,elo,hlbH,_⟩:=GOwn.vhas hN.o hp2;subst elo;have hne1:∀ x,(Value.slice eo0 q0.length ec0).ownBlock=some x->x≠lb:=fun x e=>hne0 x e lb rfl
 clear hne0;go_enter Tryz.func99,Tryz.ntmps99;go_wp2
 go_loopw [4] (fun x wr=>∃ i:Nat,i<=l2.length/\x=.int .i64 (i:Int)/\∃ (q:List Mq) (eo:Option Addr) (ec:Nat),ClB wr b base l q ao cap eo ec/\ClP l q/\NetO wr H (some ⟨lb,0,none⟩) lc l2/\(∀ x,(Value.slice eo q.length ec).ownBlock=some x->x≠lb)/\Below base w wr) (fun x _=>l2.length-(intOf x).toNat)
 case atStart=>exact⟨0,Nat.zero_le _,rfl,q0,eo0,ec0,hC,hP0,hN,hne1,Below.refl _ _⟩
 case round=>
  clear hC hP0 hN hne1;obtain⟨i,hi,rfl,q,eo,ec,hC,hP,hN,hne,hbl⟩:=hrel;have c0:=VHas.cell hC.x (j:=0) (by omega);have c1:=VHas.cell hC.x (j:=1) (by omega);simp[lf]at c0 c1;have hq200:=hP.net
  by_cases hlt:i<l2.length
  rotate_left
  ·have hge:¬ ((i:Int)<(l2.length:Int)):=by omega
   go_wp2;simp[bodyPost,results,Tryz.results99,go_sem];exact⟨⟨_,_,_,hC,hP⟩,hbl⟩
  have hil:(i:Int)<(l2.length:Int):=by omega
  have hi0:(0:Int)<=(i:Int):=by omega
  by_cases hq:q.length<200
  rotate_left
  ·have hge:¬ ((q.length:Int)<200):=by omega
   go_wp2;simp[bodyPost,results,Tryz.results99,go_sem];exact⟨⟨_,_,_,hC,hP⟩,hbl⟩
  have hq':(q.length:Int)<200:=by omega
  obtain⟨z,hz⟩:∃ z,l2[i]?=some z:=⟨l2[i],by simp[hlt]⟩
  have hzm:z∈l2:=List.mem_of_getElem? hz
  go_wp2_with fail
  clear c0 c1;have hd:RB wr wr.drew:=(Below.refl _ _).drew;have hD:SdP w b base H lb l q.length ao cap eo ec l2 lc wr.drew:=SdP.next ⟨hC.x,hC.n,hC.nl,hN,hbl⟩ hbs hd;have hQD:=hC.m.next hd;clear hd hC hN hbl
  refine region_mid (by kernel_rfl) (by kernel_rfl) (by kernel_rfl) 10 [1,2,3,4,5,6,7,8,9] [0,11,12] (by kernel_rfl) (by kernel_rfl) (fun _ _=>True)
   (fun W5=>SdP w b base H lb l q.length ao cap eo ec l2 lc W5) (fun a9 b9 h hb=>h.next hbs hb)
   [isV (.pointer (some ⟨b,0,none⟩)),isV (.pointer (some ⟨b,0,none⟩)),isV (.pointer (some ⟨b,0,none⟩)),isV (.pointer (some ⟨b,1,none⟩)),isV (.slice eo q.length ec),isV (.slice (some ⟨lb,0,none⟩) l2.length lc),isV (.int .i64 (i:Int)),isV (.pointer (some ⟨lb,i*9,none⟩)),isV (msV z.m z.eo z.ec),MgB z,NtA base lb (q++[z]),isV (.pointer (some ⟨b,0,none⟩)),isV (.pointer (some ⟨b,1,none⟩))]
   ⟨isV.rb,isV.rb,isV.rb,isV.rb,isV.rb,isV.rb,isV.rb,isV.rb,isV.rb,MgB.rb,NtA.rb,isV.rb,isV.rb,trivial⟩ rfl ?_ ?_ ?_ ?_ _ rfl rfl rfl
   (fun v9 W9=>∃ a c,ClB W9 b base l (q++[z]) ao cap a c/\NetO W9 H (some ⟨lb,0,none⟩) lc l2/\(∀ x,(Value.slice a (q++[z]).length c).ownBlock=some x->x≠lb)/\Below base w W9) ?_ ?_
  ·intro i hi v w1 w2 h hx
   simp only[List.mem_cons,List.not_mem_nil,or_false]at hi;rcases hi with rfl|rfl|rfl<;>exact h
  ·intro i hi o ho
   simp only[List.mem_cons,List.not_mem_nil,or_false]at hi;rcases hi with rfl|rfl|rfl|rfl|rfl|rfl|rfl|rfl|rfl<;>(obtain rfl:=Option.some.inj ho)
   ·exact oq rfl fun ev w9 v hR E pr=>by
     have e1:=E.was 0 _;simp[go_sem,e1]
   ·exact oq rfl fun ev w9 v hR E pr=>by
     have e1:=E.eq pr 1 20;simp[go_sem,e1]
   ·exact oq rfl fun ev w9 v hR E pr=>by
     have e1:=E.eq pr 2 21;simp[go_sem,e1]
   ·exact oq rfl fun ev w9 v hR E pr=>by
     have e1:=E.eq pr 3 22;have cc:=(hD.x.next hR).cell (j:=1) (by omega);simp[lf]at cc;simp[go_sem,cc,e1]
   ·exact oq rfl fun ev w9 v hR E pr=>by
     have e1:=E.was 1 _;simp[go_sem,e1]
   ·exact oq rfl fun ev w9 v hR E pr=>by
     have e1:=E.was 4 _;simp[go_sem,e1]
   ·exact oq rfl fun ev w9 v hR E pr=>by
     have e1:=E.eq pr 5 24;have e2:=E.eq pr 6 25;simp[go_sem,hi0,hil,e1,e2]
   ·exact oq rfl fun ev w9 v hR E pr=>by
     have e1:=E.eq pr 7 26;exact exec_msAt rfl e1 (GOwn.next hD.m2.o hR) hz
   ·refine OpOk.val rfl fun ev w9 v hR E pr=>?_
    have e1:=E.eq pr 8 27;exact⟨.slice (some ⟨w9.heap.size,0,none⟩) 1 1,w9.alloc (.cells (msL z.m z.eo z.ec).toArray 29),(by (simp[go_sem,e1])<;>rfl),RB.alloc _ _,⟨w9.heap.size,rfl,msB_new w9 z.m z.eo z.ec⟩⟩
  ·intro i h1 h2 h3 o ho
   have hc3:i=0\/i=11\/i=12:=by
    simp at h1 h3;omega
   rcases hc3 with rfl|rfl|rfl<;>(obtain rfl:=Option.some.inj ho)
   ·exact LateOk.get _ (fun _=>rfl) fun ev w9 v hR E pr=>by
     have e1:=E.was 0 _;simp[go_sem,E.con,e1]
   ·exact LateOk.get _ (fun _=>rfl) fun ev w9 v hR E pr=>by
     have e1:ev (.tmp 19)=.pointer (some ⟨b,0,none⟩):=E.kept pr 0 19;simp[go_sem,E.con,e1]
   ·exact LateOk.get _ (fun _=>rfl) fun ev w9 v hR E pr=>by
     have e1:ev (.tmp 30)=.pointer (some ⟨b,0,none⟩):=E.kept pr 11 30;simp[go_sem,E.con,e1]
  ·intro o ho
   obtain rfl:=Option.some.inj ho;refine MidOk.val fun ev w9 v hR E pr=>?_
   have e1:=E.eq pr 4 23;have e2:MgB z (ev (.tmp 28)) w9:=E.get pr 9 28;have h9:=hD.next hbs hR;have hO9:=hQD.next hR;have hlb9:lb<w9.heap.size:=(GOwn.at h9.m2.o rfl).2;refine ex_mono (appz_ok (lb:=lb) rfl e1 hO9 e2 ((h9.m2.e z hzm).from' hH) (by omega) (Nat.le_trans hbs h9.bl.size) hlb9 hne) ?_;rintro u w8 ⟨hu,hg⟩;exact⟨trivial,h9.net hbs hg (fun x e=>⟨(GOwn.at hO9.o e).1,GOwn.typed hO9.o e,hne x e⟩),hu⟩
  ·rintro ev w9 v hP9 E hk
   have k1:=hk 12 (by simp);have k2:=hk 10 (by simp);have E1:=E.at_ 12 31 rfl (by kernel_rfl) (Nat.le_of_ble_eq_true (by kernel_rfl));have E2:=E.at_ 10 29 rfl (by kernel_rfl) (Nat.le_of_ble_eq_true (by kernel_rfl));obtain⟨a,c,e1,hN9,hn9⟩:NtA base lb (q++[z]) (v 10) w9:=k2;have e2:v 12=.pointer (some ⟨b,1,none⟩):=k1;rw[e2]at E1;rw[e1]at E2;have g9:=gr_setCell w9 b 1 (.slice a (q++[z]).length c);have hT:∀ x,some b=some x->Typed w9 x 54:=fun x e=>by cases e;exact VHas.typed hP9.x
   exact⟨_,exec_cell rfl E1 E2 hP9.x (by omega) (by kernel_rfl) rfl (oneV rfl),fun _ _=>⟨a,c,⟨(VHas.set hP9.x 1 _).congr (fun j hj=>by
    have:j=0\/j=1:=by omega
    rcases this with rfl|rfl<;>simp[lf]),GOwn.gr hP9.n g9 hT (by decide),hN9.gr g9 hT (by decide) (by decide),fun y hy=>(hP9.nl y hy).gr g9 hT (by decide) (by decide)⟩,hP9.m2.gr g9 hT (by decide) (by decide),hn9,blw_row hP9.bl hbs g9 (fun x e=>by cases e;exact hbb)⟩⟩
  ·intro v8 W8 hF8
   simp only[putL,Nat.zero_add,Nat.reduceAdd,Act.put,List.setIfInBounds_toArray,List.set_cons_zero,List.set_cons_succ];obtain⟨a,c,hC9,hN9,hn9,hbl9⟩:=hF8;have hP9:=hP.more hq (hms z hzm);have hw1:IntKind.i64.wrap ((i:Int)+1)=(i:Int)+1:=by rw[IntKind.wrap_i64];omega
   clear hQD hD hP hne;generalize q++[z]=q9 at hC9 hn9 hP9;go_wp2
   go_roundw
   case rel=>exact⟨i+1,by omega,by go_num,q9,a,c,hC9,hP9,hN9,hn9,hbl9⟩
   case measure=>simp[intOf];omega
end
section
open Go.RowKit
theorem run_appN_zero (ty:TypeId) (g n cap:Nat) (ao:Option Addr) (c:Nat) (hnc:n<=cap) (w:World):(Builtin.append_ #[24,24] ty #[.slice (some ⟨g,0,none⟩) n cap,.slice ao 0 c]).run Tryz.prog w=.ok (.slice (some ⟨g,0,none⟩) n cap) w:=by
 obtain⟨i0,hi0,hz0,hz1,hz2⟩:=info_parts Tryz.infoEntry;cases ao<;>simp[Builtin.append_,run_underlying Tryz.underlying24,sizeOf,typeInfo,hi0,Builtin.lenOf,Builtin.firstCells,hnc,storeCells,loadCells,loadCellsFrom]
theorem wp_appN {w:World} {o:Oper} {a:Act} {K:Act->World->Prop} {Q:Exit->Act->World->Prop} (s x:Operand)
  (ho:o.op=.call { callee:=.builtin .append,args:=#[s,x],argTypes:=#[24,24] })
  (base g0 n cap0:Nat) (xs:List Value) (hs:a.eval s=.slice (some ⟨g0,0,none⟩) n cap0) (hown:w.ownsRow base 47 2 (.slice (some ⟨g0,0,none⟩) n cap0) n xs)
  (ao:Option Addr) (m c:Nat) (T:Nat->Int) (X:Nat->ByteArray) (hx:a.eval x=.slice ao m c) (hr:NRow w ao m T X) (hm:n+m<=3000000) (hbase:base<=w.heap.size)
  (h:∀ g cap w',w'.ownsRow base 47 2 (.slice (some ⟨g,0,none⟩) (n+m) cap) (n+m) (xs++nCells T X m)->Below base w w'->K (a.put o.dst (.slice (some ⟨g,0,none⟩) (n+m) cap)) w'):o.wp Tryz.prog a w K Q:=by
 have hg0:base<=g0/\n<=cap0:=by
  rcases hown.2 with ⟨e,_⟩|⟨g,cap,cur,e,h1,_,h2,_⟩
  ·cases e
  ·simp only[Value.slice.injEq,Option.some.injEq,Addr.mk.injEq,and_true,true_and]at e
   obtain⟨rfl,rfl⟩:=e;exact⟨h1,h2⟩
 by_cases hz:0<m
 ·obtain⟨b1,o1,rfl,_⟩:=hr 0 hz
  obtain⟨i0,hi0,hz0,hz1,hz2⟩:=info_parts Tryz.infoEntry;refine wp_append_lies w s x _ ho base 47 i0 _ 2 24 Tryz.underlying24 hi0 hz0 hz1 hz2 rfl (by omega) _ n xs hs hown ⟨b1,o1,none⟩ m c (nCells T X m) hx (nCells_len _ _ _) (NRow.news hr) (nCells_one _ _ _) hz (by unfold maxLen;omega) (by omega) hbase w.heap.size rfl ?_;intro g cap w' hown' hgrow _ _;exact h g cap w' hown' (gr_below (b:=g0) hgrow hg0.1 hbase)
 ·obtain rfl:m=0:=by omega
  have hrun:=run_appN_zero o.type g0 n cap0 ao c hg0.2 w;unfold Oper.wp execOp;simp only[ho,resolve,invoke,builtin,Sem.run_bind,Sem.run_pure,Result.andThen_ok,List.map_toArray,List.map_cons,List.map_nil,hs,hx,hrun];have e:xs++nCells T X 0=xs:=by simp[nCells]
  exact h g0 cap0 w (by rw[e];exact hown) (Below.refl _ _)
theorem wpList_appN {w:World} {ops:Array Oper} {rest:List Oper} {o:Oper} {a:Act} {Q:Exit->Act->World->Prop} (hgd:o.guard=none) (s x:Operand)
  (ho:o.op=.call { callee:=.builtin .append,args:=#[s,x],argTypes:=#[24,24] })
  (base g0 n cap0:Nat) (xs:List Value) (hs:a.eval s=.slice (some ⟨g0,0,none⟩) n cap0) (hown:w.ownsRow base 47 2 (.slice (some ⟨g0,0,none⟩) n cap0) n xs)
  (ao:Option Addr) (m c:Nat) (T:Nat->Int) (X:Nat->ByteArray) (hx:a.eval x=.slice ao m c) (hr:NRow w ao m T X) (hm:n+m<=3000000) (hbase:base<=w.heap.size)
  (h:∀ g cap w',w'.ownsRow base 47 2 (.slice (some ⟨g,0,none⟩) (n+m) cap) (n+m) (xs++nCells T X m)->Below base w w'->wpList Tryz.prog ops Q rest (a.put o.dst (.slice (some ⟨g,0,none⟩) (n+m) cap)) w'):wpList Tryz.prog ops Q (o :: rest) a w:=
 wpList_plain hgd fun _ hK=>wp_appN s x ho base g0 n cap0 xs hs hown ao m c T X hx hr hm hbase (fun g cap w' h1 h2=>hK _ _ (h g cap w' h1 h2))
end
section
open Go.RowKit Go.Maps
attribute [local go_sem ↓] Go.wp_at_zero Go.wp_at_succ
theorem mOk_at {n:Nat} {T:Nat->Int} {X:Nat->ByteArray} {j m:Nat} {U:Nat->Int} {Y:Nat->ByteArray} (hl:logB n T X=true) (hj:j<=n):mOk n T X (j:Int) m U Y=logB (mN n j m (agN n T j m U)) (mV m (agN n T j m U) j T U) (mV m (agN n T j m U) j X Y):=by
 unfold mOk;rw[hl,decide_eq_true (show (0:Int)<=(j:Int) by omega),decide_eq_true (show (j:Int)<=(n:Int) by omega)];simp
end
section
open Go.RowKit
attribute [local go_sem ↓] Go.wp_at_zero Go.wp_at_succ
def MAnsO (w w':World) (e:Ending) (n:Nat) (T:Nat->Int) (X:Nat->ByteArray) (i:Int) (m:Nat) (U:Nat->Int) (Y:Nat->ByteArray):Prop:=
 ∃ ao cap,e=.returned (.tuple #[.slice ao (mLen n T X i m U Y) cap,.bool (mOk n T X i m U Y)])/\mLen n T X i m U Y<=cap/\(mOk n T X i m U Y=true->GOwn w' w.heap.size 47 2 ao (mLen n T X i m U Y) cap (nr (mV m (agN n T i.toNat m U) i.toNat T U) (mV m (agN n T i.toNat m U) i.toNat X Y)))/\Below w.heap.size w w'
theorem MAnsO.no {w w':World} {n:Nat} {T:Nat->Int} {X:Nat->ByteArray} {i:Int} {m:Nat} {U:Nat->Int} {Y:Nat->ByteArray} {ao:Option Addr} {cap:Nat} (h:mOk n T X i m U Y=false) (hb:Below w.heap.size w w'):MAnsO w w' (.returned (.tuple #[.slice ao 0 cap,.bool false])) n T X i m U Y:=by
 have hl:mLen n T X i m U Y=0:=if_neg (by rw[h];simp);exact⟨ao,cap,by rw[hl,h],by omega,fun q=>(by rw[h]at q;cases q),hb⟩
theorem MAnsO.yes' {w w':World} {n:Nat} {T:Nat->Int} {X:Nat->ByteArray} {j:Nat} {m:Nat} {U:Nat->Int} {Y:Nat->ByteArray} {g cap N':Nat} {T':Nat->Int} {X':Nat->ByteArray} (h:mOk n T X (j:Int) m U Y=true)
  (hN:mN n j m (agN n T j m U)=N') (hT:mV m (agN n T j m U) j T U=T') (hX:mV m (agN n T j m U) j X Y=X') (hg:w.heap.size<=g) (hc:N'<=cap) (hO:GOwn w' w.heap.size 47 2 (some ⟨g,0,none⟩) N' cap (nr T' X')) (hb:Below w.heap.size w w'):
  MAnsO w w' (.returned (.tuple #[.slice (some ⟨g,0,none⟩) N' cap,.bool true])) n T X (j:Int) m U Y:=by
 subst hN hT hX;have hl:mLen n T X (j:Int) m U Y=mN n j m (agN n T j m U):=if_pos h;exact⟨some ⟨g,0,none⟩,cap,by rw[hl,h],by omega,fun _=>by rw[hl];exact hO,hb⟩
set_option maxRecDepth 100000 in
set_option maxHeartbeats 4000000 in
theorem specMerge_own (ao:Option Addr) (n cap:Nat) (T:Nat->Int) (X:Nat->ByteArray) (i:Int) (bo:Option Addr) (m bcap:Nat) (U:Nat->Int) (Y:Nat->ByteArray) (hn:n<=1048576) (hc:n<=cap) (hm:m<=1048576) (hbc:m<=bcap) (hX:∀ k,k<n->(X k).size<=1048576) (hY:∀ k,k<m->(Y k).size<=1048576) (w:World) (hr:NRow w ao n T X) (hs:NRow w bo m U Y):
  Calls Tryz.prog 82 #[.slice ao n cap,.int .i64 i,.slice bo m bcap] w fun e w'=>MAnsO w w' e n T X i m U Y:=by
 have HL:=fun W h=>specLogOk_any ao n cap T X (by omega) hX W h
 obtain⟨l,hl⟩:∃ l,logB n T X=l:=⟨_,rfl⟩
 rw[hl]at HL;cases l
 ·have hno:mOk n T X i m U Y=false:=by unfold mOk;rw[hl];rfl
  go_enter Tryz.func82,Tryz.ntmps82
  go_wp2_with fail
  refine (HL _ hr).mono ?_;rintro e w1 ⟨rfl,hb1⟩;go_wp2;refine bodyPost_ret (v:=.tuple #[.slice (some ⟨w1.heap.size,0,none⟩) 0 0,.bool false]) (by simp[results,Tryz.results82,go_sem]) rfl (MAnsO.no hno (hb1.alloc hb1.size _))
 have hn2:=(logB_at hl).1
 by_cases hi:i<0\/(n:Int)<i
 ·have hno:mOk n T X i m U Y=false:=by
   unfold mOk;rcases hi with h|h
   ·rw[decide_eq_false (show ¬ 0<=i by omega)];simp
   ·rw[decide_eq_false (show ¬ i<=(n:Int) by omega)];simp
  have hb:inB i 0 (n:Int)=false:=by simp[inB];omega
  have HI:∀ W,Calls Tryz.prog 40 #[.int .i64 i,.int .i64 0,.int .i64 (n:Int)] W fun e w'=>e=.returned (.bool false)/\w'=W:=fun W=>by rw[<-hb];exact l1In_any _ _ _ _
  go_enter Tryz.func82,Tryz.ntmps82
  go_wp2_with fail
  refine (HL _ hr).mono ?_;rintro e w1 ⟨rfl,hb1⟩
  go_wp2_with (go_at_call 40;refine (HI _).mono ?_;rintro e w2 ⟨rfl,hq⟩;have hq':=hq.symm;subst hq';clear hq)
  refine bodyPost_ret (v:=.tuple #[.slice (some ⟨w1.heap.size,0,none⟩) 0 0,.bool false]) (by simp[results,Tryz.results82,go_sem]) rfl (MAnsO.no hno (hb1.alloc hb1.size _))
 obtain⟨j,rfl⟩:∃ j:Nat,i=j:=⟨i.toNat,by omega⟩
 have hj:j<=n:=by omega
 have hb:inB (j:Int) 0 (n:Int)=true:=by simp[inB];omega
 have HI:∀ W,Calls Tryz.prog 40 #[.int .i64 (j:Int),.int .i64 0,.int .i64 (n:Int)] W fun e w'=>e=.returned (.bool true)/\w'=W:=fun W=>by rw[<-hb];exact l1In_any _ _ _ _
 go_enter Tryz.func82,Tryz.ntmps82
 go_wp2_with fail
 refine (HL _ hr).mono ?_;rintro e w1 ⟨rfl,hb1⟩
 go_wp2_with (go_at_call 40;refine (HI _).mono ?_;rintro e w2 ⟨rfl,hq⟩;have hq':=hq.symm;subst hq';clear hq)
 have hr1:=hr.below hb1 nl;have hs1:=hs.below hb1 nl;have HA:Hid (∀ k,k<=m->(∀ j',j'<k->agF n T U j j'=true)->(k<m->agF n T U j k=false)->agN n T j m U=k):=fun k h1 h2 h3=>ag_is h1 h2 h3
 go_loopw [9] (fun q wr=>∃ k:Nat,k<=m/\q=.int .i64 k/\(∀ j',j'<k->agF n T U j j'=true)/\Below w1.heap.size w1 wr) (fun q _=>m-(intOf q).toNat)
 case atStart=>exact⟨0,Nat.zero_le _,rfl,fun j hj=>by omega,Below.refl _ _⟩
 case round=>
  obtain⟨k,hk,rfl,hat,hbel⟩:=hrel;have hjk1:IntKind.i64.wrap ((j:Int)+(k:Int))=(j:Int)+(k:Int):=by rw[IntKind.wrap_i64];omega
  have hq:∀ q,Below w1.heap.size w1 (wr.drewN q):=fun q=>below_drewN hbel q
  have hqw:∀ q,Below w.heap.size w (wr.drewN q):=fun q=>below_next hb1 nl (hq q)
  have hsz:w.heap.size<=wr.heap.size:=Nat.le_trans hb1.size hbel.size
  by_cases hlt:k<m
  rotate_left
  ·have hkn:k=m:=by omega
   subst hkn;have hKm:=HA.out k nl hat (fun h=>by omega);have hok:mOk n T X (j:Int) k U Y=true:=by rw[mOk_at hl hj,hKm,mN_no (by omega),mV_no (by omega),mV_no (by omega)];exact hl
   have HF:Hid (∀ {w':World} {g cap:Nat},w.heap.size<=g->n<=cap->GOwn w' w.heap.size 47 2 (some ⟨g,0,none⟩) n cap (nr T X)->Below w.heap.size w w'->MAnsO w w' (.returned (.tuple #[.slice (some ⟨g,0,none⟩) n cap,.bool true])) n T X (j:Int) k U Y):=fun hg hc hO hb=>MAnsO.yes' hok (by rw[hKm,mN_no (by omega)]) (by rw[hKm,mV_no (by omega)]) (by rw[hKm,mV_no (by omega)]) hg hc hO hb
   have HL2:=fun ao' cap' W h=>specLogOk_any ao' n cap' T X (by omega) hX W h
   rw[hl]at HL2;clear hok hKm HA hat hs1
   go_wp2_with fail
   go_quiet (fail)
   go_wp2_with (first|(at_builtin;refine wpList_appN rfl _ _ rfl _ wr.heap.size 0 0 [] rfl (empty_ownsN _) ao n cap T X rfl ((hr1.below (hq _) nl).alloc _) (by omega) (by simp) ?_;intro g cap' w2 hown2 hb2))
   simp only[Nat.zero_add,List.nil_append]at hown2 ⊢;have hcp2:=owns_cap hown2;obtain⟨hN2,hg2⟩:=nhas_of_owns hown2 rfl;have hG2:GOwn w2 w.heap.size 47 2 (some ⟨g,0,none⟩) n cap' (nr T X):=GOwn.from (show GOwn w2 wr.heap.size 47 2 (some ⟨g,0,none⟩) n cap' (nr T X) from hown2) hsz
   have hA2:Below w.heap.size w w2:=((hqw _).alloc (by simpa using hsz) _).trans (hb2.mono (by simpa using hsz));have hg3:w.heap.size<=g:=Nat.le_trans (by simpa using hsz) hg2;clear hown2 hb2 hg2
   go_wp2_with fail
   refine (HL2 _ _ _ (nhas_row hN2)).mono ?_;rintro e w3 ⟨rfl,hb3⟩;go_wp2;exact bodyPost_ret (v:=.tuple #[.slice (some ⟨g,0,none⟩) n cap',.bool true]) (by simp[results,Tryz.results82,go_sem]) rfl (HF.out hg3 hcp2 (hG2.next hb3) (below_next hA2 nl hb3))
  have hk9:(k:Int)<(m:Int):=by omega
  have hkn:j+k<=n:=by
   rcases Nat.eq_zero_or_pos k with h|h
   ·omega
   ·have:=of_decide_eq_true (hat (k-1) (by omega))
    omega
  obtain⟨b2,o2,hao2,e0,e1⟩:=(hs1.below hbel nl) k hlt;subst hao2
  by_cases hin:j+k<n
  rotate_left
  ·have hno:agF n T U j k=false:=decide_eq_false (by omega)
   have hin':¬ (j:Int)+(k:Int)<(n:Int):=by omega
   have hin2:(n:Int)<=(j:Int)+(k:Int):=by omega
   have hin3:decide ((j:Int)+(k:Int)<(n:Int))=false:=decide_eq_false hin';have hKm:=HA.out k hk hat (fun _=>hno);have hok:=mOk_at (m:=m) (U:=U) (Y:=Y) hl hj;rw[hKm,mN_yes hlt,mV_yes hlt,mV_yes hlt]at hok
   have hXX:∀ x,x<j+m->(mrg k j X Y x).size<=1048576:=fun x hx=>by
    have:=mV_le (m:=m) hj hkn hX hY x (by rw[mN_yes hlt];exact hx)
    rwa [mV_yes hlt]at this
   have HL2:=fun ao' cap' W h=>specLogOk_any ao' (j+m) cap' (mrg k j T U) (mrg k j X Y) (by omega) hXX W h
   rw[<-hok]at HL2;have HF:Hid (∀ {w':World} {g cap:Nat},mOk n T X (j:Int) m U Y=true->w.heap.size<=g->j+m<=cap->GOwn w' w.heap.size 47 2 (some ⟨g,0,none⟩) (j+m) cap (nr (mrg k j T U) (mrg k j X Y))->Below w.heap.size w w'->MAnsO w w' (.returned (.tuple #[.slice (some ⟨g,0,none⟩) (j+m) cap,.bool true])) n T X (j:Int) m U Y):=fun hy hg hc hO hb=>MAnsO.yes' hy (by rw[hKm,mN_yes hlt]) (by rw[hKm,mV_yes hlt]) (by rw[hKm,mV_yes hlt]) hg hc hO hb
   have HNo:Hid (∀ {w':World} {ao:Option Addr} {cap:Nat},mOk n T X (j:Int) m U Y=false->Below w.heap.size w w'->MAnsO w w' (.returned (.tuple #[.slice ao 0 cap,.bool false])) n T X (j:Int) m U Y):=fun h hb=>MAnsO.no h hb
   clear hok hKm HA hat hno;generalize mOk n T X (j:Int) m U Y=q at HL2 HF HNo
   go_wp2_with fail
   go_quiet (fail)
   go_wp2_with (first|(at_builtin;refine wpList_appN rfl _ _ rfl _ wr.heap.size 0 0 [] rfl (empty_ownsN _) ao n cap T X rfl ((hr1.below (hq _) nl).alloc _) (by omega) (by simp) ?_;intro g cap' w2 hown2 hb2))
   simp only[Nat.zero_add,List.nil_append]at hown2 ⊢;have hA2:Below w.heap.size w w2:=((hqw _).alloc (by simpa using hsz) _).trans (hb2.mono (by simpa using hsz));clear hown2 hb2;have f2:(0:Int)<=(j:Int)+(k:Int):=by omega
   have f3:(j:Int)+(k:Int)<=(cap:Int):=by omega
   have f4:((j:Int)+(k:Int)).toNat=j+k:=by omega
   have f5:k<=m:=by omega
   have f6:k<bcap:=by omega
   have hrk:=((hr.below hA2 nl).less hkn)
   have hsk:=NRow.drop (k:=k) (hs.below hA2 nl) (by omega)
   go_wp2_with fail
   refine wp_region_held_drew (S:=fun _=>True) (by kernel_rfl) trivial (fun _=>?_);refine tK 1 (some 60) (.slice ao n cap) rfl rfl trivial (fun w _=>by go_simp<;>first|omega|(rw[IntKind.wrap_i64];omega)) ?_;simp only[pS];refine tK 2 (some 61) (.int .i64 (j:Int)) rfl rfl trivial (fun w _=>by go_simp<;>first|omega|(rw[IntKind.wrap_i64];omega)) ?_;simp only[pS];refine tK 3 (some 62) (.int .i64 (k:Int)) rfl rfl trivial (fun w _=>by go_simp<;>first|omega|(rw[IntKind.wrap_i64];omega)) ?_;simp only[pS];refine tK 4 (some 63) (.int .i64 ((j:Int)+(k:Int))) rfl rfl trivial (fun w _=>by go_simp<;>first|omega|(rw[IntKind.wrap_i64];omega)) ?_;simp only[pS];refine tK 5 (some 64) (.slice ao (j+k) cap) rfl rfl trivial (fun w _=>by go_simp<;>first|omega|(rw[IntKind.wrap_i64];omega)) ?_;simp only[pS];refine tK 7 (some 66) (.slice (some ⟨b2,o2,none⟩) m bcap) rfl rfl trivial (fun w _=>by go_simp<;>first|omega|(rw[IntKind.wrap_i64];omega)) ?_;simp only[pS];refine tK 8 (some 67) (.int .i64 (k:Int)) rfl rfl trivial (fun w _=>by go_simp<;>first|omega|(rw[IntKind.wrap_i64];omega)) ?_;simp only[pS];refine tK 9 (some 68) (.slice (some ⟨b2,o2+k*2,none⟩) (m-k) (bcap-k)) rfl rfl trivial (fun w _=>by go_simp<;>first|omega|(rw[IntKind.wrap_i64];omega)) ?_;simp only[pS];refine step1H 0 _ rfl (by kernel_rfl) (by rfl) ?_;go_simp;refine step1H 6 _ rfl (by kernel_rfl) (by rfl) ?_;refine wp_appN _ _ rfl _ w2.heap.size 0 0 [] rfl (empty_ownsN w2) ao (j+k) cap T X rfl (hrk.alloc _) (by omega) (by simp) ?_;intro g3 cap3 w3 hown3 hb3;simp only[Nat.zero_add,List.nil_append]at hown3 ⊢;have hb23:Below w2.heap.size w2 w3:=(((Below.refl _ _).alloc nl _).drew).trans hb3;refine⟨trivial,?_⟩;refine step1H 10 _ rfl (by kernel_rfl) (by rfl) ?_;refine wp_appN _ _ rfl _ g3 (j+k) cap3 (nCells T X (j+k)) rfl hown3 (some ⟨b2,o2+k*2,none⟩) (m-k) (bcap-k) (fun x=>U (k+x)) (fun x=>Y (k+x)) rfl (hsk.below hb23 nl) (by omega) hb23.size ?_;intro g4 cap4 w4 hown4 hb4;refine⟨trivial,?_⟩;have hs9:j+k+(m-k)=j+m:=by omega
   rw[hs9]at hown4 ⊢
   have e4:nCells T X (j+k)++nCells (fun x=>U (k+x)) (fun x=>Y (k+x)) (m-k)=nCells (mrg k j T U) (mrg k j X Y) (j+m):=(by
    rw[<-hs9];refine nCells_app _ _ (fun x hx=>⟨if_pos hx,if_pos hx⟩) (fun x hx=>?_);have hx1:¬ j+k+x<j+k:=by omega
    have hy1:j+k+x-j=k+x:=by omega
    unfold mrg;rw[if_neg hx1,if_neg hx1,hy1]
    exact⟨rfl,rfl⟩)
   have hN4:=nhas_of_owns (T:=mrg k j T U) (X:=mrg k j X Y) hown4 e4;have hG4:GOwn w4 w.heap.size 47 2 (some ⟨g4,0,none⟩) (j+m) cap4 (nr (mrg k j T U) (mrg k j X Y)):=GOwn.from (by rw[e4]at hown4;exact hown4) hA2.size
   have hcp4:=owns_cap hown4;have hA4:Below w.heap.size w w4:=below_next hA2 nl (hb23.trans hb4);have hg4:w.heap.size<=g4:=Nat.le_trans hA2.size hN4.2;refine tK 11 (some 10) (.slice (some ⟨g4,0,none⟩) (j+m) cap4) rfl rfl trivial (fun w _=>by go_simp) ?_;simp only[pS];refine wpAnyH_done (by kernel_rfl) ?_ _;clear hown3 hown4 hb3 hb4 hb23
   go_wp2_with fail
   refine (HL2 _ _ _ (nhas_row hN4.1)).mono ?_;rintro e w5 ⟨rfl,hb5⟩;have hA5:=below_next hA4 nl hb5;cases q
   ·go_wp2
    exact bodyPost_ret (v:=.tuple #[.slice (some ⟨w5.heap.size,0,none⟩) 0 0,.bool false]) (by simp[results,Tryz.results82,go_sem]) rfl (HNo.out trivial (hA5.alloc hA5.size _))
   ·go_wp2
    exact bodyPost_ret (v:=.tuple #[.slice (some ⟨g4,0,none⟩) (j+m) cap4,.bool true]) (by simp[results,Tryz.results82,go_sem]) rfl (HF.out trivial hg4 hcp4 (hG4.next hb5) hA5)
  have hin':(j:Int)+(k:Int)<(n:Int):=by omega
  obtain⟨b1,o1,hao1,d0,d1⟩:=(hr1.below hbel nl) (j+k) hin;subst hao1;have f0:(0:Int)<=(j:Int)+(k:Int):=by omega
  have f1:((j:Int)+(k:Int)).toNat=j+k:=by omega
  by_cases hTT:T (j+k)=U k
  ·have hyes:agF n T U j k=true:=decide_eq_true ⟨hin,hTT⟩
   go_wp2_with fail
   go_quiet (fail)
   go_wp2
   go_roundw
   case rel=>
    refine⟨k+1,by omega,by go_num,fun j' hj'=>?_,hq _⟩
    by_cases e:j'=k
    ·subst e;exact hyes
    ·exact hat j' (by omega)
   case measure=>simp[intOf];omega
  ·have hno:agF n T U j k=false:=decide_eq_false (fun h=>hTT h.2)
   have hKm:=HA.out k hk hat (fun _=>hno);have hok:=mOk_at (m:=m) (U:=U) (Y:=Y) hl hj;rw[hKm,mN_yes hlt,mV_yes hlt,mV_yes hlt]at hok
   have hXX:∀ x,x<j+m->(mrg k j X Y x).size<=1048576:=fun x hx=>by
    have:=mV_le (m:=m) hj hkn hX hY x (by rw[mN_yes hlt];exact hx)
    rwa [mV_yes hlt]at this
   have HL2:=fun ao' cap' W h=>specLogOk_any ao' (j+m) cap' (mrg k j T U) (mrg k j X Y) (by omega) hXX W h
   rw[<-hok]at HL2;have HF:Hid (∀ {w':World} {g cap:Nat},mOk n T X (j:Int) m U Y=true->w.heap.size<=g->j+m<=cap->GOwn w' w.heap.size 47 2 (some ⟨g,0,none⟩) (j+m) cap (nr (mrg k j T U) (mrg k j X Y))->Below w.heap.size w w'->MAnsO w w' (.returned (.tuple #[.slice (some ⟨g,0,none⟩) (j+m) cap,.bool true])) n T X (j:Int) m U Y):=fun hy hg hc hO hb=>MAnsO.yes' hy (by rw[hKm,mN_yes hlt]) (by rw[hKm,mV_yes hlt]) (by rw[hKm,mV_yes hlt]) hg hc hO hb
   have HNo:Hid (∀ {w':World} {ao:Option Addr} {cap:Nat},mOk n T X (j:Int) m U Y=false->Below w.heap.size w w'->MAnsO w w' (.returned (.tuple #[.slice ao 0 cap,.bool false])) n T X (j:Int) m U Y):=fun h hb=>MAnsO.no h hb
   clear hok hKm HA hat hno;generalize mOk n T X (j:Int) m U Y=q at HL2 HF HNo
   go_wp2_with fail
   go_quiet (fail)
   go_wp2_with (first|(at_builtin;refine wpList_appN rfl _ _ rfl _ wr.heap.size 0 0 [] rfl (empty_ownsN _) (some ⟨b1,o1,none⟩) n cap T X rfl ((hr1.below (hq _) nl).alloc _) (by omega) (by simp) ?_;intro g cap' w2 hown2 hb2))
   simp only[Nat.zero_add,List.nil_append]at hown2 ⊢;have hA2:Below w.heap.size w w2:=((hqw _).alloc (by simpa using hsz) _).trans (hb2.mono (by simpa using hsz));clear hown2 hb2;have f2:(0:Int)<=(j:Int)+(k:Int):=by omega
   have f3:(j:Int)+(k:Int)<=(cap:Int):=by omega
   have f4:((j:Int)+(k:Int)).toNat=j+k:=by omega
   have f5:k<=m:=by omega
   have f6:k<bcap:=by omega
   have hrk:=((hr.below hA2 nl).less hkn)
   have hsk:=NRow.drop (k:=k) (hs.below hA2 nl) (by omega)
   go_wp2_with fail
   refine wp_region_held_drew (S:=fun _=>True) (by kernel_rfl) trivial (fun _=>?_);refine tK 1 (some 60) (.slice (some ⟨b1,o1,none⟩) n cap) rfl rfl trivial (fun w _=>by go_simp<;>first|omega|(rw[IntKind.wrap_i64];omega)) ?_;simp only[pS];refine tK 2 (some 61) (.int .i64 (j:Int)) rfl rfl trivial (fun w _=>by go_simp<;>first|omega|(rw[IntKind.wrap_i64];omega)) ?_;simp only[pS];refine tK 3 (some 62) (.int .i64 (k:Int)) rfl rfl trivial (fun w _=>by go_simp<;>first|omega|(rw[IntKind.wrap_i64];omega)) ?_;simp only[pS];refine tK 4 (some 63) (.int .i64 ((j:Int)+(k:Int))) rfl rfl trivial (fun w _=>by go_simp<;>first|omega|(rw[IntKind.wrap_i64];omega)) ?_;simp only[pS];refine tK 5 (some 64) (.slice (some ⟨b1,o1,none⟩) (j+k) cap) rfl rfl trivial (fun w _=>by go_simp<;>first|omega|(rw[IntKind.wrap_i64];omega)) ?_;simp only[pS];refine tK 7 (some 66) (.slice (some ⟨b2,o2,none⟩) m bcap) rfl rfl trivial (fun w _=>by go_simp<;>first|omega|(rw[IntKind.wrap_i64];omega)) ?_;simp only[pS];refine tK 8 (some 67) (.int .i64 (k:Int)) rfl rfl trivial (fun w _=>by go_simp<;>first|omega|(rw[IntKind.wrap_i64];omega)) ?_;simp only[pS];refine tK 9 (some 68) (.slice (some ⟨b2,o2+k*2,none⟩) (m-k) (bcap-k)) rfl rfl trivial (fun w _=>by go_simp<;>first|omega|(rw[IntKind.wrap_i64];omega)) ?_;simp only[pS];refine step1H 0 _ rfl (by kernel_rfl) (by rfl) ?_;go_simp;refine step1H 6 _ rfl (by kernel_rfl) (by rfl) ?_;refine wp_appN _ _ rfl _ w2.heap.size 0 0 [] rfl (empty_ownsN w2) (some ⟨b1,o1,none⟩) (j+k) cap T X rfl (hrk.alloc _) (by omega) (by simp) ?_;intro g3 cap3 w3 hown3 hb3;simp only[Nat.zero_add,List.nil_append]at hown3 ⊢;have hb23:Below w2.heap.size w2 w3:=(((Below.refl _ _).alloc nl _).drew).trans hb3;refine⟨trivial,?_⟩;refine step1H 10 _ rfl (by kernel_rfl) (by rfl) ?_;refine wp_appN _ _ rfl _ g3 (j+k) cap3 (nCells T X (j+k)) rfl hown3 (some ⟨b2,o2+k*2,none⟩) (m-k) (bcap-k) (fun x=>U (k+x)) (fun x=>Y (k+x)) rfl (hsk.below hb23 nl) (by omega) hb23.size ?_;intro g4 cap4 w4 hown4 hb4;refine⟨trivial,?_⟩;have hs9:j+k+(m-k)=j+m:=by omega
   rw[hs9]at hown4 ⊢
   have e4:nCells T X (j+k)++nCells (fun x=>U (k+x)) (fun x=>Y (k+x)) (m-k)=nCells (mrg k j T U) (mrg k j X Y) (j+m):=(by
    rw[<-hs9];refine nCells_app _ _ (fun x hx=>⟨if_pos hx,if_pos hx⟩) (fun x hx=>?_);have hx1:¬ j+k+x<j+k:=by omega
    have hy1:j+k+x-j=k+x:=by omega
    unfold mrg;rw[if_neg hx1,if_neg hx1,hy1]
    exact⟨rfl,rfl⟩)
   have hN4:=nhas_of_owns (T:=mrg k j T U) (X:=mrg k j X Y) hown4 e4;have hG4:GOwn w4 w.heap.size 47 2 (some ⟨g4,0,none⟩) (j+m) cap4 (nr (mrg k j T U) (mrg k j X Y)):=GOwn.from (by rw[e4]at hown4;exact hown4) hA2.size
   have hcp4:=owns_cap hown4;have hA4:Below w.heap.size w w4:=below_next hA2 nl (hb23.trans hb4);have hg4:w.heap.size<=g4:=Nat.le_trans hA2.size hN4.2;refine tK 11 (some 10) (.slice (some ⟨g4,0,none⟩) (j+m) cap4) rfl rfl trivial (fun w _=>by go_simp) ?_;simp only[pS];refine wpAnyH_done (by kernel_rfl) ?_ _;clear hown3 hown4 hb3 hb4 hb23
   go_wp2_with fail
   refine (HL2 _ _ _ (nhas_row hN4.1)).mono ?_;rintro e w5 ⟨rfl,hb5⟩;have hA5:=below_next hA4 nl hb5;cases q
   ·go_wp2
    exact bodyPost_ret (v:=.tuple #[.slice (some ⟨w5.heap.size,0,none⟩) 0 0,.bool false]) (by simp[results,Tryz.results82,go_sem]) rfl (HNo.out trivial (hA5.alloc hA5.size _))
   ·go_wp2
    exact bodyPost_ret (v:=.tuple #[.slice (some ⟨g4,0,none⟩) (j+m) cap4,.bool true]) (by simp[results,Tryz.results82,go_sem]) rfl (HF.out trivial hg4 hcp4 (hG4.next hb5) hA5)
theorem l10Fits_any (ao:Option Addr) (n cap:Nat) (T:Nat->Int) (X:Nat->ByteArray) (i t:Int) (hn:n<=9223372036854775807) (w:World) (hr:NRow w ao n T X):
  Calls Tryz.prog 81 #[.slice ao n cap,.int .i64 i,.int .i64 t] w fun e w'=>e=.returned (.bool (fitB n T i t))/\w'=w:=by
 by_cases h0:i=0
 ·subst h0
  have hf:fitB n T 0 t=decide (t=0):=by
   unfold fitB lastT;simp;exact eq_comm
  rw[hf];go_enter Tryz.func81,Tryz.ntmps81;go_wp2;go_ret;exact⟨by simp;by_cases h9:t=0<;>simp[h9],rfl⟩
 by_cases h1:1<=i/\i<=n
 ·obtain⟨k,rfl⟩:∃ k:Nat,i=(k:Int)+1:=⟨(i-1).toNat,by omega⟩
  have hf:fitB n T ((k:Int)+1) t=decide (T k=t):=by
   have e:((k:Int)+1).toNat=k+1:=by omega
   unfold fitB lastT;rw[e,if_neg (by omega)];simp only[Nat.add_sub_cancel];have h9:(0:Int)<=(k:Int)+1:=by omega
   simp[h9,h1.2]
  rw[hf];obtain⟨b,o,rfl,c0,c1⟩:=hr k (by omega);have hb:inB ((k:Int)+1) 1 (n:Int)=true:=by simp[inB];omega
  have hk1:(k:Int)<(n:Int):=by omega
  have hk2:(k:Int)+1-1=(k:Int):=by omega
  have hk3:IntKind.i64.wrap ((k:Int)+1-1)=(k:Int):=by rw[IntKind.wrap_i64];omega
  have hk4:¬ ((k:Int)+1=0):=by omega
  have HI:∀ W,Calls Tryz.prog 40 #[.int .i64 ((k:Int)+1),.int .i64 1,.int .i64 (n:Int)] W fun e w'=>e=.returned (.bool true)/\w'=W:=fun W=>by rw[<-hb];exact l1In_any _ _ _ _
  go_enter Tryz.func81,Tryz.ntmps81
  go_wp2_with (go_at_call 40;refine (HI _).mono ?_;rintro e w1 ⟨rfl,hq⟩;have hq':=hq.symm;subst hq';clear hq)
  go_ret;exact⟨by simp;by_cases h9:T k=t<;>simp[h9],rfl⟩
 ·have hf:fitB n T i t=false:=decide_eq_false (by omega)
  rw[hf];have hb:inB i 1 (n:Int)=false:=by simp[inB];omega
  have HI:∀ W,Calls Tryz.prog 40 #[.int .i64 i,.int .i64 1,.int .i64 (n:Int)] W fun e w'=>e=.returned (.bool false)/\w'=W:=fun W=>by rw[<-hb];exact l1In_any _ _ _ _
  go_enter Tryz.func81,Tryz.ntmps81
  go_wp2_with (go_at_call 40;refine (HI _).mono ?_;rintro e w1 ⟨rfl,hq⟩;have hq':=hq.symm;subst hq';clear hq)
  go_ret;exact⟨rfl,rfl⟩
theorem l10Newer_any (ao:Option Addr) (n cap:Nat) (T:Nat->Int) (X:Nat->ByteArray) (i t:Int) (hn:n<=9223372036854775807) (w:World) (hr:NRow w ao n T X):
  Calls Tryz.prog 80 #[.slice ao n cap,.int .i64 i,.int .i64 t] w fun e w'=>e=.returned (.bool (newT n T i t))/\w'=w:=by
 unfold newT;generalize hL:lastT n T=l;have H:=fun W h=>l10Last_any ao n cap T X hn W h
 rw[hL]at H
 by_cases h1:l<t
 ·go_enter Tryz.func80,Tryz.ntmps80
  go_wp2_with (go_at_call 43;refine (H _ hr).mono ?_;rintro e w1 ⟨rfl,rfl⟩)
  go_ret;exact⟨by simp[h1],rfl⟩
 by_cases h2:t=l
 ·subst h2
  go_enter Tryz.func80,Tryz.ntmps80
  go_wp2_with (go_at_call 43;refine (H _ hr).mono ?_;rintro e w1 ⟨rfl,rfl⟩)
  go_ret;exact⟨by simp,rfl⟩
 ·go_enter Tryz.func80,Tryz.ntmps80
  go_wp2_with (go_at_call 43;refine (H _ hr).mono ?_;rintro e w1 ⟨rfl,rfl⟩)
  go_ret;exact⟨by simp[h1,h2],rfl⟩
end
section
open Go
def segB:List Oper->Nat->Bool
 | [],_=>true
 | o :: r,q=>(o.dst==some q)&&segB r (q+1)
def segV (v:Nat->Value):Nat->Nat->List Value
 | _,0=>[]
 | i,n+1=>v i :: segV v (i+1) n
theorem take_set_one {α : Type}:∀ (l:List α) (q:Nat) (x:α),q<l.length->(l.set q x).take (q+1)=l.take q++[x]
 | [],q,x,h=>by simp at h
 | a :: r,0,x,h=>by simp
 | a :: r,q+1,x,h=>by
  have:=take_set_one r q x (by simpa using h);simp only[List.set_cons_succ,List.take_succ_cons,List.cons_append];rw[this]
theorem drop_set_one {α : Type}:∀ (l:List α) (q k:Nat) (x:α),(l.set q x).drop (q+1+k)=l.drop (q+1+k)
 | [],q,k,x=>by simp
 | a :: r,0,k,x=>by
  have e:0+1+k=k+1:=by omega
  rw[e];simp
 | a :: r,q+1,k,x=>by
  have:=drop_set_one r q k x;have e:q+1+1+k=q+1+k+1:=by omega
  rw[e];simp only[List.set_cons_succ,List.drop_succ_cons];exact this
theorem putL_seg (v:Nat->Value):∀ (l:List Oper) (i q:Nat) (a:Act),segB l q=true->q+l.length<=a.tmps.size->putL v i l a=⟨(a.tmps.toList.take q++(segV v i l.length++a.tmps.toList.drop (q+l.length))).toArray,a.defers⟩
 | [],i,q,a,_,h=>by
  simp only[putL,segV,List.length_nil,Nat.add_zero,List.nil_append,List.take_append_drop]
 | o :: r,i,q,a,hs,h=>by
  simp only[segB,Bool.and_eq_true,beq_iff_eq]at hs;have hq:q<a.tmps.size:=by simp at h;omega
  have ih:=putL_seg v r (i+1) (q+1) (a.put o.dst (v i)) hs.2 (by simp only[Act.put,hs.1,Array.size_setIfInBounds];simp at h;omega);simp only[putL];rw[ih];simp only[Act.put,hs.1,Array.toList_setIfInBounds];rw[take_set_one _ _ _ (by simpa using hq),drop_set_one];simp only[segV,List.length_cons,List.append_assoc,List.cons_append,List.nil_append];have e:q+1+r.length=q+(r.length+1):=by omega
  rw[e]
end
end Go.Proofs.YtbabakgjkloabaaGreatDoor
