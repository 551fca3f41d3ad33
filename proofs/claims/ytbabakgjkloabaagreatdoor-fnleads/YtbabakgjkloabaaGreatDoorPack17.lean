/-
  Helpers: Srp, Pk, Pv, Pt, Pw, Ll0, Draw.
-/
import Derived.Test.YtbabakgjkloabaaGreatDoorPack1
import Derived.Test.YtbabakgjkloabaaGreatDoorPack16
import Derived.Test.YtbabakgjkloabaaGreatDoorPack12
import Derived.Test.YtbabakgjkloabaaGreatDoorPack13
import Derived.Test.YtbabakgjkloabaaGreatDoorPack14
import Derived.Test.YtbabakgjkloabaaGreatDoorPack7
import Derived.Test.YtbabakgjkloabaaGreatDoorPack2
import Derived.Test.YtbabakgjkloabaaGreatDoorPack3
import Derived.Deep.QuietTactic
import Derived.BigQuiet
set_option linter.unusedVariables false
set_option linter.unusedSimpArgs false
namespace Go.Proofs.YtbabakgjkloabaaGreatDoor
section
open Go Go.RowKit
attribute [local go_sem ↓] Go.wp_at_zero Go.wp_at_succ
def upN (n:Nd) (t:Int):Nd:=⟨n.id,n.peers,t,-1,n.log,1,n.commit,[],[],[]⟩
def rc1 (n:Nd) (m:Ms):Nd:=if n.term<m.term then upN n m.term else n
def vsL (p:Nat) (vs:List Int) (fr:Int):List Int:=((List.range p).map (fun (k:Nat)=>(k:Int))).filter (fun q=>q==fr||vs.contains q)
def vd1 (n:Nd) (fr:Int):Nd:=⟨n.id,n.peers,n.term,n.vote,n.log,n.role,n.commit,vsL n.peers.toNat n.votes fr,n.next,n.mat⟩
def vdB (n:Nd) (m:Ms):Bool:=(n.role==2)&&((m.term==n.term)&&m.yes)
def vdN (n:Nd) (m:Ms):Nd:=if vdB n m=true then (if majB n.peers (vsL n.peers.toNat n.votes m.frm).length=true then ldN (vd1 n m.frm) else vd1 n m.frm) else n
def vdL (n:Nd) (m:Ms):List Ms:=if vdB n m=true then (if majB n.peers (vsL n.peers.toNat n.votes m.frm).length=true then ldL (vd1 n m.frm) else []) else []
def rkN (n:Nd) (m:Ms):Nd:=if m.kind=1 then vyN n m else if m.kind=2 then vdN n m else if m.kind=3 then apnN n m else apdN n m m.frm.toNat
def rkL (n:Nd) (m:Ms):List Ms:=if m.kind=1 then [votedM (vyN n m) m.frm (vyB n m)] else if m.kind=2 then vdL n m else if m.kind=3 then apnL n m else []
def rcvN (n:Nd) (m:Ms):Nd:=if forB n m=true then rkN (rc1 n m) m else n
def rcvL (n:Nd) (m:Ms):List Ms:=if forB n m=true then rkL (rc1 n m) m else []
def ReA (base:Nat) (n:Nd) (l:List Ms) (w w':World) (e:Ending):Prop:=∃ s v,e=.returned (.tuple #[ndV n s,v])/\NdO w' base n s/\NetV w.heap.size l v w'/\Ch base w w'
theorem MsB.put {W:World} {b:Nat} {m m':Ms} {eo eo':Option Addr} {ec ec':Nat} (h:MsB W b m eo ec) (k:Nat) (hk:k<9) (v:Value) (e:(msL m eo ec).set k v=msL m' eo' ec'):MsB (W.setCell ⟨b,k,none⟩ v) b m' eo' ec':=
 (VHas.set h k v).congr (fun j hj=>by
  rw[<-e]
  by_cases q:j=k
  ·subst q
   have:j<(msL m eo ec).length:=hk;simp only[lf,if_true,List.getD_eq_getElem?_getD,List.getElem?_set_self this,Option.getD_some]
  ·simp only[if_neg q,lf,List.getD_eq_getElem?_getD,List.getElem?_set_ne (fun r=>q r.symm)])
theorem wpList_ms {P:Program} {ops:Array Oper} {o:Oper} {rest:List Oper} {a:Act} {W:World} {Q:Exit->Act->World->Prop} (hgd:o.guard=none) (ty:TypeId) (x y:Operand) (ho:o.op=.store ty x y) (hd:o.dst=none) (b k:Nat) (v:Value) (hx:a.eval x=.pointer (some ⟨b,k,none⟩)) (hy:a.eval y=v) {m:Ms} {eo:Option Addr} {ec:Nat} (m':Ms) (eo':Option Addr) (ec':Nat) (hb:MsB W b m eo ec) (hk:k<9) (hi:(P.info? ty).map (·.size)=some 1) (hvc:v.cells=#[v]) (hv:v.oneCell'=true) (e:(msL m eo ec).set k v=msL m' eo' ec')
  (h:∀ W',MsB W' b m' eo' ec'->W.grownBy W' (some b)->wpList P ops Q rest a W'):wpList P ops Q (o :: rest) a W:=
 wpList_cell hgd ty x y ho hd b k v hx hy hb hk hi hvc hv fun W' e'=>by
  subst e';exact h _ (MsB.put hb k hk v e) (gr_setCell W b k v)
theorem wM {P:Program} {ops:Array Oper} {o:Oper} {rest:List Oper} {a:Act} {W:World} {Q:Exit->Act->World->Prop} (ty:TypeId) (x y:Operand) (b k:Nat) (v:Value) {m:Ms} {eo:Option Addr} {ec:Nat} (m':Ms) (hb:MsB W b m eo ec)
  (h:∀ W',MsB W' b m' eo ec->W.grownBy W' (some b)->wpList P ops Q rest a W') (hgd:o.guard=none:=by rfl) (ho:o.op=.store ty x y:=by rfl) (hd:o.dst=none:=by rfl) (hx:a.eval x=.pointer (some ⟨b,k,none⟩):=by simp[go_sem]) (hy:a.eval y=v:=by simp[go_sem]) (hk:k<9:=by omega) (hi:(P.info? ty).map (·.size)=some 1:=by kernel_rfl) (hvc:v.cells=#[v]:=by kernel_rfl) (hv:v.oneCell'=true:=by kernel_rfl) (e:(msL m eo ec).set k v=msL m' eo ec:=by kernel_rfl):wpList P ops Q (o :: rest) a W:=
 wpList_ms hgd ty x y ho hd b k v hx hy m' eo ec hb hk hi hvc hv e h
theorem Ch.rb {base:Nat} {w w' w'':World} (h:Ch base w w') (hb:RB w' w''):Ch base w w'':=h.trans (Ch.of_rb hb)
theorem Ch.g2 {base b:Nat} {r:Option Nat} {w w' w'':World} (h:Ch base w w') (g:G2 b r w' w'') (h1:w.heap.size<=b) (h2:∀ k,r=some k->base<=k/\Typed w' k 47):Ch base w w'':=
 ⟨g.os.trans h.os,g.tape.trans h.tape,g.output.trans h.output,Nat.le_trans h.size g.size,fun k hk hc=>by
  have e:=h.block k hk hc;refine (g.block k (Nat.lt_of_lt_of_le hk h.size) (by omega) (fun q=>?_)).trans e;have h3:=h2 k q;rcases hc with hc|hc
  ·omega
  ·exact hc (.inr ((typed_same e).1 h3.2))⟩
structure NkR (n:Nd):Prop where
 p:1<=n.peers/\n.peers<=5
 i:0<=n.id/\n.id<n.peers
 c:0<=n.commit/\n.commit<=n.log.length
 t:0<=n.term/\n.term<=100000
 l:logL n.log=true
 v:votesB n.peers 0 n.votes=true
 x:n.role=3->(n.next.length:Int)=n.peers/\(n.mat.length:Int)=n.peers/\∀ i,i<n.next.length->1<=iOf n.next i/\iOf n.next i<=n.log.length+1/\0<=iOf n.mat i/\iOf n.mat i<=n.log.length
theorem nkR_of {n:Nd} (h:nodeB n=true):NkR n:=by
 have hp:=nodeB_peers h;have hx:=fun hr=>nodeB_reach h hr
 simp only[nodeB,Bool.and_eq_true]at h;obtain⟨_,_,h2,_,⟨h4,_⟩,h5,h6⟩:=h;refine⟨⟨hp.1,hp.2.1⟩,hp.2.2,of_decide_eq_true h5,of_decide_eq_true h2,h4,?_,hx⟩;unfold roleB at h6
 split at h6
 ·simp only[Bool.and_eq_true]at h6;exact h6.1
 ·split at h6
  ·simp only[Bool.and_eq_true,List.isEmpty_iff]at h6
   rw[h6.1];rfl
  ·split at h6
   ·simp only[Bool.and_eq_true]at h6;exact h6.1
   ·cases h6
theorem nkR_up {n:Nd} {t:Int} (h:nodeB n=true) (ht:1<=t/\t<=100000):NkR (upN n t):=by
 have k:=nkR_of h;exact⟨k.p,k.i,k.c,by show 0<=t/\t<=100000;omega,k.l,rfl,fun hr=>by simp[upN]at hr⟩
theorem nkR_zO {N:Nd} {w:World} {base:Nat} {s:NdS} (h:NkR N) (hO:NdO w base N s) (hl:N.log.length<=1048576) (ht:∀ k,k<N.log.length->(xOf N.log k).size<=1048576) (hv:N.votes.length<=1048576) (hx:N.next.length<=1048576) (hm:N.mat.length<=1048576):NdZ N s:=
 ⟨hl,hv,hx,hm,hO.K.l,hO.K.v,hO.K.x,hO.K.m,ht⟩
structure RS (w:World) (base qb e0:Nat) (N:Nd) (sN:NdS) (m:Ms) (eo:Option Addr) (ec:Nat) (RE:Ms) (W:World):Prop where
 a:NdB W w.heap.size N sN
 m:MsB W (w.heap.size+1) m eo ec
 r:NdB W (w.heap.size+1+1) nd0 ns0
 q:MsB W qb RE none 0
 o:NdO W base N sN
 z:GOwn W w.heap.size 29 9 (some ⟨e0,0,none⟩) 0 0 (lf (nlc []))
 c:Ch base w W
 s:w.heap.size+1+1<qb
 t:e0<qb
theorem RS.next {w W W':World} {base qb e0:Nat} {N:Nd} {sN:NdS} {m:Ms} {eo:Option Addr} {ec:Nat} {RE:Ms} (h:RS w base qb e0 N sN m eo ec RE W) (hb:RB W W'):RS w base qb e0 N sN m eo ec RE W':=
 ⟨VHas.next h.a hb,VHas.next h.m hb,VHas.next h.r hb,VHas.next h.q hb,h.o.next hb,GOwn.next h.z hb,h.c.trans (Ch.of_rb hb),h.s,h.t⟩
theorem RS.putQ {w W W':World} {base qb e0:Nat} {N:Nd} {sN:NdS} {m:Ms} {eo:Option Addr} {ec:Nat} {RE RE':Ms} (h:RS w base qb e0 N sN m eo ec RE W) (v:MsB W' qb RE' none 0) (g:W.grownBy W' (some qb)):RS w base qb e0 N sN m eo ec RE' W':=by
 have hs:=h.s;have ht:=h.t;have hT:∀ x,some qb=some x->Typed W x 29:=fun x e=>by cases e;exact h.q.typed
 exact⟨VHas.gr h.a g hT (by decide),VHas.grown h.m g (fun e=>by have:=Option.some.inj e;omega),VHas.gr h.r g hT (by decide),v,h.o.gr g hT (by decide) (by decide),GOwn.grown h.z g (fun x e q=>by
  have h1:qb=x:=Option.some.inj q;have h2:e0=x:=Option.some.inj e
  omega),h.c.box g (by omega),hs,ht⟩
theorem RS.putA {w W W':World} {base qb e0:Nat} {N N':Nd} {sN sN':NdS} {m:Ms} {eo:Option Addr} {ec:Nat} {RE:Ms} (h:RS w base qb e0 N sN m eo ec RE W) (v:NdB W' w.heap.size N' sN') (o:NdO W' base N' sN') (g:W.grownBy W' (some w.heap.size)):RS w base qb e0 N' sN' m eo ec RE W':=by
 have hs:=h.s;have hT:∀ x,some w.heap.size=some x->Typed W x 27:=fun x e=>by cases e;exact h.a.typed
 exact⟨v,VHas.gr h.m g hT (by decide),VHas.grown h.r g (fun e=>by have:=Option.some.inj e;omega),VHas.gr h.q g hT (by decide),o,GOwn.gr h.z g hT (by decide),h.c.box g nl,hs,h.t⟩
theorem netV_z {w W:World} {e0:Nat} (h:GOwn W w.heap.size 29 9 (some ⟨e0,0,none⟩) 0 0 (lf (nlc []))):NetV w.heap.size [] (.slice (some ⟨e0,0,none⟩) 0 0) W:=⟨_,_,[],rfl,rfl,h,fun q hq=>by cases hq⟩
theorem NetV.ch {base b:Nat} {ms:List Ms} {v:Value} {w w':World} (h:NetV b ms v w) (hc:w.grownBy w' (some base)) (ht:Typed w base 27):NetV b ms v w':=NetV.gr h hc ht
end
section
open Go Go.RowKit
theorem ldT_c:isC ldT=true:=by decide
structure Bk (n:Nd):Prop where
 p:1<=n.peers/\n.peers<=5
 i:0<=n.id/\n.id<n.peers
 t:0<=n.term/\n.term<=100000
 v:n.vote = -1\/(0<=n.vote/\n.vote<n.peers)
 l:logL n.log=true
 a:lastL n.log<=n.term
 c:0<=n.commit/\n.commit<=n.log.length
theorem nodeB_bk (n:Nd):nodeB n=true↔Bk n/\roleB n=true:=by
 simp only[nodeB,srvB,Bool.and_eq_true,Bool.or_eq_true,beq_iff_eq,decide_eq_true_eq];exact⟨fun ⟨h1,h2,h3,h4,⟨h5,h6⟩,h7,h8⟩=>⟨⟨h1,h2,h3,h4,h5,h6,h7⟩,h8⟩,fun ⟨⟨h1,h2,h3,h4,h5,h6,h7⟩,h8⟩=>⟨h1,h2,h3,h4,⟨h5,h6⟩,h7,h8⟩⟩
structure OkN (n:Nd):Prop where
 b:Bk n
 r:roleB n=true
 z:n.role=3->0<n.term/\n.log≠[]
theorem OkN.B {n:Nd} (h:OkN n):nodeB n=true:=(nodeB_bk n).2 ⟨h.b,h.r⟩
theorem OkN.R {n:Nd} (h:OkN n):nodeR n=true:=by
 rw[nodeR,h.B,Bool.true_and];rcases Bool.eq_false_or_eq_true (n.role==3) with q|q
 ·have:=(h.z (by simpa using q)).1
  simp[q];omega
 ·simp[q]
theorem OkN.fol {n:Nd} (h:Bk n) (h1:n.role=1) (h2:n.votes=[]) (h3:n.next=[]) (h4:n.mat=[]):OkN n:=⟨h,by simp[roleB,h1,h2,h3,h4],fun q=>by omega⟩
structure LdR (n:Nd):Prop where
 v:votesB n.peers 0 n.votes=true
 x:(n.next.length:Int)=n.peers
 m:(n.mat.length:Int)=n.peers
 r:∀ i,i<n.next.length->1<=iOf n.next i/\iOf n.next i<=n.log.length+1/\0<=iOf n.mat i/\iOf n.mat i<=n.log.length
theorem ldR_of {n:Nd} (h:roleB n=true) (hr:n.role=3):LdR n:=by
 simp only[roleB,hr,if_true,reachB,Bool.and_eq_true,decide_eq_true_eq,List.all_eq_true,List.mem_range,reachAt]at h;exact⟨h.1,h.2.1.1,h.2.1.2,h.2.2⟩
theorem LdR.role {n:Nd} (h:LdR n) (hr:n.role=3):roleB n=true:=by
 simp only[roleB,hr,if_true,reachB,Bool.and_eq_true,decide_eq_true_eq,List.all_eq_true,List.mem_range,reachAt];exact⟨h.v,⟨h.x,h.m⟩,h.r⟩
theorem agr_bd (n:Nd):∀ k,n.commit<=agr n k/\(agr n k<=k\/agr n k=n.commit)
 | 0=>⟨Int.le_refl _,.inr rfl⟩
 | k+1=>by
  have ih:=agr_bd n k;rw[agr]
  split
  ·split
   ·omega
   ·omega
  ·omega
theorem agrN_bd (n:Nd) (h:n.commit<=n.log.length):n.commit<=agrN n/\agrN n<=n.log.length:=by
 have:=agr_bd n n.log.length;unfold agrN;omega
theorem iOf_set (l:List Int) (k:Nat) (x:Int) (j:Nat):iOf (l.set k x) j=if k=j/\j<l.length then x else iOf l j:=by
 unfold iOf;rw[List.getD_eq_getElem?_getD,List.getD_eq_getElem?_getD,List.getElem?_set]
 by_cases q:k=j
 ·subst q
  by_cases q2:k<l.length
  ·simp[q2]
  ·simp[q2]
 ·simp[q]
theorem OkN.mi {n:Nd} (b:Bk n) (h:LdR n) (hr:n.role=3) (ht:0<n.term) (hl:n.log≠[]) (i:Nat):OkN (miN n i):=by
 have hb:=agrN_bd (matN n i) b.c.2
 have h2:LdR (miN n i):=⟨h.v,h.x,by simp only[miN,List.length_set];exact h.m,fun j hj=>by
  have hrj:=h.r j hj
  show 1<=iOf n.next j/\iOf n.next j<=n.log.length+1/\0<=iOf (n.mat.set i n.log.length) j/\iOf (n.mat.set i n.log.length) j<=n.log.length
  rw[iOf_set]
  split<;>omega⟩
 exact⟨⟨b.p,b.i,b.t,b.v,b.l,b.a,⟨Int.le_trans b.c.1 hb.1,hb.2⟩⟩,h2.role hr,fun _=>⟨ht,hl⟩⟩
theorem tOf_app (l:List En) (e:En) (k:Nat):tOf (l++[e]) k=if k<l.length then tOf l k else if k=l.length then e.t else 0:=by
 unfold tOf;simp only[List.getD_eq_getElem?_getD,List.getElem?_append]
 split
 ·rfl
 ·split
  ·next h=>simp[h]
  ·have:k-l.length≠0:=by omega
   have:([e]:List En)[k-l.length]?=none:=by simp;omega
   simp[this,en0]
theorem xOf_app (l:List En) (e:En) (k:Nat) (h:k<=l.length):xOf (l++[e]) k=if k<l.length then xOf l k else e.x:=by
 unfold xOf;simp only[List.getD_eq_getElem?_getD,List.getElem?_append]
 split
 ·rfl
 ·have:k-l.length=0:=by omega
  simp[this]
theorem lastL_app (l:List En) (e:En):lastL (l++[e])=e.t:=by
 simp[lastL,lastT,tOf_app]
theorem logL_iff (l:List En):logL l=true↔l.length<=200/\∀ k,k<l.length->logAt (tOf l) (xOf l) k=true:=by
 simp[logL,logB]
theorem logL_app {l:List En} {e:En} (h:logL l=true) (h1:l.length<200) (h2:1<=e.t/\e.t<=100000) (h3:lastL l<=e.t) (hc:isC e.x=true):logL (l++[e])=true:=by
 rw[logL_iff]at h ⊢;refine⟨by simp;omega,fun k hk=>?_⟩;simp at hk
 by_cases q:k<l.length
 ·have:=h.2 k q
  have e1:tOf (l++[e]) k=tOf l k:=by rw[tOf_app,if_pos q]
  have e2:xOf (l++[e]) k=xOf l k:=by rw[xOf_app _ _ _ (by omega),if_pos q]
  have e3:tOf (l++[e]) (k-1)=tOf l (k-1):=by rw[tOf_app,if_pos (by omega)]
  unfold logAt at this ⊢;rw[e1,e2,e3];exact this
 ·have q':k=l.length:=by omega
  subst q';have e1:tOf (l++[e]) l.length=e.t:=by rw[tOf_app,if_neg (by omega),if_pos rfl]
  have e2:xOf (l++[e]) l.length=e.x:=by rw[xOf_app _ _ _ (by omega),if_neg (by omega)]
  unfold logAt;rw[e1,e2,hc]
  by_cases z:l.length=0
  ·simp[z,h2.1,h2.2]
  ·have e3:tOf (l++[e]) (l.length-1)=tOf l (l.length-1):=by rw[tOf_app,if_pos (by omega)]
   rw[e3];simp only[lastL,lastT,if_neg z]at h3;simp[h2.1,h2.2,h3]
theorem Bk.pr {n:Nd} (h:Bk n) (hr:roomL n=true) {t:ByteArray} (hc:isC t=true):Bk (prA n t):=by
 simp only[roomL,Bool.and_eq_true,decide_eq_true_eq]at hr;have h1:=h.t;refine⟨h.p,h.i,h.t,h.v,logL_app h.l hr.1 ⟨by show 1<=n.term;omega,h1.2⟩ h.a hc,by rw[show (prA n t).log=n.log++[⟨n.term,t⟩] from rfl,lastL_app];exact Int.le_refl _,?_⟩;have:=h.c;simp[prA];omega
theorem LdR.pr {n:Nd} (h:LdR n) (t:ByteArray):LdR (prA n t):=⟨h.v,h.x,h.m,fun i hi=>by
 have:=h.r i hi;simp[prA]
 omega⟩
theorem iOf_rep (n:Nat) (x:Int) (i:Nat) (h:i<n):iOf (List.replicate n x) i=x:=by simp[iOf,h]
theorem OkN.ld {n:Nd} (b:Bk n) (hv:votesB n.peers 0 n.votes=true) (ht:0<n.term):OkN (ldN n):=by
 have b1:Bk (ldM n):=⟨b.p,b.i,b.t,b.v,b.l,b.a,b.c⟩
 have hp:=b.p
 have l1:LdR (ldM n):=⟨hv,by simp[ldM];omega,by simp[ldM];omega,fun i hi=>by
  have hi':i<n.peers.toNat:=by simpa[ldM] using hi
  simp only[ldM];rw[iOf_rep _ _ _ hi',iOf_rep _ _ _ hi']
  omega⟩
 unfold ldN ldA
 split
 ·next hr=>exact OkN.mi (b1.pr hr ldT_c) (l1.pr _) rfl ht (by simp[prA]) _
 ·next hr=>
  refine OkN.mi b1 l1 rfl ht ?_ _;intro q;apply hr;have q':n.log=[]:=q;simp[roomL,ldM,q',ht]
theorem OkN.tm {n:Nd} (h:OkN n):OkN (tmN n):=by
 unfold tmN;rw[if_pos h.B]
 split
 ·exact h
 ·next hb=>
  have hb':n.role≠3/\n.term≠100000:=by simpa[tmB] using hb
  have ht:=h.b.t;have hi:=h.b.i;have b2:Bk (stN n):=⟨h.b.p,h.b.i,by simp only[stN];omega,.inr h.b.i,h.b.l,by have:=h.b.a;simp only[stN];omega,h.b.c⟩
  have v2:votesB (stN n).peers 0 (stN n).votes=true:=by simp[stN,votesB,hi.1,hi.2]
  split
  ·exact OkN.ld b2 v2 (by simp only[stN];omega)
  ·refine⟨b2,?_,fun q=>by simp[stN]at q⟩
   have hr:=h.r;simp only[roleB,if_neg hb'.1]at hr
   have:n.next=[]/\n.mat=[]:=by
    split at hr
    ·simp at hr;exact hr.2
    ·split at hr
     ·simp at hr;exact hr.2
     ·cases hr
   have v3:votesB n.peers 0 [n.id]=true:=v2;simp[roleB,stN,this.1,this.2,v3]
theorem OkN.pr {n:Nd} (h:OkN n) (t:ByteArray):OkN (prN n t):=by
 unfold prN;rw[if_pos h.B]
 split
 ·next hp=>
  simp only[prB,Bool.and_eq_true,beq_iff_eq]at hp;exact OkN.mi (h.b.pr hp.2.2 hp.1) ((ldR_of h.r hp.2.1).pr t) hp.2.1 (h.z hp.2.1).1 (by simp[prA]) _
 ·exact h
theorem OkN.rs {n:Nd} (h:OkN n):OkN (rsO n):=OkN.fol ⟨h.b.p,h.b.i,h.b.t,h.b.v,h.b.l,h.b.a,⟨Int.le_refl _,by simp[rsO]⟩⟩ rfl rfl rfl rfl
theorem OkN.up {n:Nd} (h:OkN n) {t:Int} (h1:n.term<t) (h2:t<=100000):OkN (upN n t):=OkN.fol ⟨h.b.p,h.b.i,by have:=h.b.t;simp only[upN];omega,.inl rfl,h.b.l,by have:=h.b.a;simp only[upN];omega,h.b.c⟩ rfl rfl rfl rfl
theorem OkN.fo {n:Nd} (h:OkN n):OkN (folN n):=OkN.fol ⟨h.b.p,h.b.i,h.b.t,h.b.v,h.b.l,h.b.a,h.b.c⟩ rfl rfl rfl rfl
theorem votes_filter (p:Int) (f:Int->Bool):∀ (k:Nat) (a:Int) (l:List Int),0<=a->(∀ j,j<l.length->iOf l j=a+j)->l.length=k->a+k<=p->∀ a',a'<=a->votesB p a' (l.filter f)=true
 | 0,a,l,h0,h1,h2,h3,a',h4=>by
  have:l=[]:=List.length_eq_zero_iff.1 h2;subst this;rfl
 | k+1,a,[],h0,h1,h2,h3,a',h4=>by simp at h2
 | k+1,a,x :: r,h0,h1,h2,h3,a',h4=>by
  have hx:x=a:=by simpa[iOf] using h1 0 (by simp)
  have hr:∀ j,j<r.length->iOf r j=(a+1)+j:=fun j hj=>by
   have:=h1 (j+1) (by simpa using hj);simp[iOf]at this ⊢;omega
  have hk:r.length=k:=by simpa using h2
  rw[List.filter_cons]
  split
  ·simp only[votesB,Bool.and_eq_true,decide_eq_true_eq]
   subst hx;exact⟨h4,by omega,votes_filter p f k (x+1) r (by omega) hr hk (by omega) (x+1) (by omega)⟩
  ·exact votes_filter p f k (a+1) r (by omega) hr hk (by omega) a' (by omega)
theorem vsL_ok (p:Int) (h:0<=p) (vs:List Int) (fr:Int):votesB p 0 (vsL p.toNat vs fr)=true:=by
 refine votes_filter p _ p.toNat 0 _ (by omega) (fun j hj=>?_) (by simp) (by omega) 0 (by omega);simp at hj;simp[iOf,hj]
theorem OkN.vd {n:Nd} (h:OkN n) (m:Ms) (hm:1<=m.term):OkN (vdN n m):=by
 unfold vdN
 split
 ·next hb=>
  simp only[vdB,Bool.and_eq_true,beq_iff_eq]at hb;have hp:=h.b.p;have hv:=vsL_ok n.peers (by omega) n.votes m.frm;have b2:Bk (vd1 n m.frm):=⟨h.b.p,h.b.i,h.b.t,h.b.v,h.b.l,h.b.a,h.b.c⟩
  split
  ·exact OkN.ld b2 hv (by show 0<n.term;omega)
  ·have hr:=h.r
   simp only[roleB,hb.1,Bool.and_eq_true]at hr;refine⟨b2,?_,fun q=>by have q':n.role=3:=q;omega⟩;simp only[roleB,vd1,hb.1];simp at hr ⊢;exact⟨hv,hr.2⟩
 ·exact h
theorem OkN.vy {n:Nd} (h:OkN n) (m:Ms) (hf:0<=m.frm/\m.frm<n.peers):OkN (vyN n m):=by
 unfold vyN
 split
 ·exact⟨⟨h.b.p,h.b.i,h.b.t,.inr hf,h.b.l,h.b.a,h.b.c⟩,h.r,h.z⟩
 ·exact h
theorem tOf_lst {k:Nat} {T:Nat->Int} {X:Nat->ByteArray} {j:Nat} (h:j<k):tOf (lstE k T X) j=T j:=by simp[tOf,lstE,h]
theorem xOf_lst {k:Nat} {T:Nat->Int} {X:Nat->ByteArray} {j:Nat} (h:j<k):xOf (lstE k T X) j=X j:=by simp[xOf,lstE,h]
theorem logL_lst {k:Nat} {T:Nat->Int} {X:Nat->ByteArray} (h:logB k T X=true):logL (lstE k T X)=true:=by
 rw[logL_iff,lstE_len];simp only[logB,Bool.and_eq_true,decide_eq_true_eq,List.all_eq_true,List.mem_range]at h;refine⟨h.1,fun j hj=>?_⟩;have:=h.2 j hj;unfold logAt at this ⊢;rw[tOf_lst hj,xOf_lst hj,tOf_lst (by omega)];exact this
theorem lastL_mono {l:List En} (h:logL l=true):∀ k j,j<=k->k<l.length->tOf l j<=tOf l k
 | 0,j,h1,h2=>by
  have:j=0:=by omega
  subst this;exact Int.le_refl _
 | k+1,j,h1,h2=>by
  by_cases q:j=k+1
  ·subst q;exact Int.le_refl _
  ·have:=lastL_mono h k j (by omega) (by omega)
   have h3:=(logL_iff l).1 h |>.2 (k+1) h2
   simp only[logAt,Bool.and_eq_true,decide_eq_true_eq]at h3;have h4:=h3.2.2.2;simp at h4;omega
theorem tOf_last {l:List En} (h:logL l=true) {j:Nat} (hj:j<l.length):tOf l j<=lastL l:=by
 unfold lastL lastT;rw[if_neg (by omega)];exact lastL_mono h _ _ (by omega) (by omega)
theorem mgF_facts {n:Nd} {m:Ms} (h:mgF n m=true):logL n.log=true/\0<=m.index/\m.index<=n.log.length/\mgO n m=true/\n.commit<=(mgL n m).length:=by
 simp only[mgF,fitB,Bool.and_eq_true,decide_eq_true_eq]at h;exact⟨h.1.1,h.1.2.1,h.1.2.2.1,h.2.1,h.2.2.1⟩
theorem mgL_facts {n:Nd} {m:Ms} (h:mgF n m=true) (he:logL m.ents=true):logL (mgL n m)=true/\lastL (mgL n m)<=max (lastL n.log) (lastL m.ents)/\apnR m<=(mgL n m).length:=by
 obtain⟨h1,h2,h3,h4,_⟩:=mgF_facts h;have h4':mOk n.log.length (tOf n.log) (xOf n.log) m.index m.ents.length (tOf m.ents) (xOf m.ents)=true:=h4
 have e1:mgL n m=lstE (mN n.log.length m.index.toNat m.ents.length (mgK n m)) (mV m.ents.length (mgK n m) m.index.toNat (tOf n.log) (tOf m.ents)) (mV m.ents.length (mgK n m) m.index.toNat (xOf n.log) (xOf m.ents)):=by
  unfold mgL mLen;rw[if_pos h4'];rfl
 have h5:logB (mN n.log.length m.index.toNat m.ents.length (mgK n m)) (mV m.ents.length (mgK n m) m.index.toNat (tOf n.log) (tOf m.ents)) (mV m.ents.length (mgK n m) m.index.toNat (xOf n.log) (xOf m.ents))=true:=by
  simp only[mOk,Bool.and_eq_true]at h4';exact h4'.2.2.2
 have hin:m.index.toNat+mgK n m<=n.log.length:=agN_in (by omega);have hle:mgK n m<=m.ents.length:=agN_le _ _ _ _ _;have hlog:=logL_lst h5;rw[<-e1]at hlog;refine⟨hlog,?_,?_⟩
 ·rw[e1]
  unfold lastL lastT;rw[lstE_len]
  by_cases z:mN n.log.length m.index.toNat m.ents.length (mgK n m)=0
  ·rw[if_pos z]
   have:0<=lastL n.log:=by
    unfold lastL lastT
    split
    ·exact Int.le_refl _
    ·have:=(logL_iff n.log).1 h1 |>.2 (n.log.length-1) (by omega)
     simp only[logAt,Bool.and_eq_true,decide_eq_true_eq]at this;omega
   unfold lastL lastT at this;omega
  ·rw[if_neg z,tOf_lst (by omega)]
   have a1:∀ j,j<n.log.length->tOf n.log j<=lastL n.log:=fun j hj=>tOf_last h1 hj
   have a2:∀ j,j<m.ents.length->tOf m.ents j<=lastL m.ents:=fun j hj=>tOf_last he hj
   unfold lastL lastT at a1 a2;unfold mN mV at *
   by_cases q:mgK n m<m.ents.length
   ·rw[if_pos q]at z ⊢
    rw[if_pos q];unfold mrg
    split
    ·have:=a1 (m.index.toNat+m.ents.length-1) (by omega)
     omega
    ·have:=a2 (m.index.toNat+m.ents.length-1-m.index.toNat) (by omega)
     omega
   ·rw[if_neg q]at z ⊢
    rw[if_neg q];have:=a1 (n.log.length-1) (by omega);omega
 ·rw[e1,lstE_len]
  unfold apnR mN
  split<;>omega
theorem OkN.ap {n:Nd} (h:OkN n) (m:Ms) (he:logL m.ents=true) (hl:lastL m.ents<=m.term) (hm:m.term<=n.term):OkN (apnN n m):=by
 unfold apnN
 split
 ·exact h
 ·split
  ·exact h
  ·split
   ·next hF=>
    obtain⟨h1,h2,h3,h4,h5⟩:=mgF_facts hF;obtain⟨g1,g2,g3⟩:=mgL_facts hF he;have ha:=h.b.a;have hc:=h.b.c;have g2':lastL (mgL (folN n) m)<=max (lastL n.log) (lastL m.ents):=g2;have h5':n.commit<=(mgL (folN n) m).length:=h5;exact OkN.fol ⟨h.b.p,h.b.i,h.b.t,h.b.v,g1,by show lastL (mgL (folN n) m)<=n.term;omega,by show 0<=max n.commit (min m.commit (apnR m))/\max n.commit (min m.commit (apnR m))<=((mgL (folN n) m).length:Int);omega⟩ rfl rfl rfl rfl
   ·exact h.fo
theorem OkN.apd {n:Nd} (h:OkN n) (m:Ms) (fr:Nat) (hf:(fr:Int)<n.peers):OkN (apdN n m fr):=by
 unfold apdN
 split
 ·next hb=>
  have hL:=ldR_of h.r hb.1;have hz:=h.z hb.1;have hx:fr<n.next.length:=by have:=hL.x;omega
  have hm:fr<n.mat.length:=by have:=hL.m;omega
  have hr:=hL.r fr hx
  split
  ·have c2:=agrN_bd (axN (amN n fr (apdM n m fr)) fr (apdM n m fr+1)) h.b.c.2
   have c1:=h.b.c.1;have hM:iOf n.mat fr<=apdM n m fr/\apdM n m fr<=n.log.length:=by unfold apdM;split<;>omega
   refine⟨⟨h.b.p,h.b.i,h.b.t,h.b.v,h.b.l,h.b.a,⟨Int.le_trans c1 c2.1,c2.2⟩⟩,LdR.role ⟨hL.v,by simp[acN,axN,amN];exact hL.x,by simp[acN,axN,amN];exact hL.m,fun j hj=>?_⟩ hb.1,h.z⟩;have hrj:=hL.r j (by simpa[acN,axN,amN] using hj)
   show 1<=iOf (n.next.set fr _) j/\iOf (n.next.set fr _) j<=(n.log.length:Int)+1/\0<=iOf (n.mat.set fr _) j/\iOf (n.mat.set fr _) j<=(n.log.length:Int)
   rw[iOf_set,iOf_set]
   split<;>split<;>omega
  ·have hX:1<=apdX n m fr/\apdX n m fr<=n.log.length+1:=by unfold apdX;omega
   refine⟨⟨h.b.p,h.b.i,h.b.t,h.b.v,h.b.l,h.b.a,h.b.c⟩,LdR.role ⟨hL.v,by simp[axN];exact hL.x,hL.m,fun j hj=>?_⟩ hb.1,h.z⟩;have hrj:=hL.r j (by simpa[axN] using hj)
   show 1<=iOf (n.next.set fr _) j/\iOf (n.next.set fr _) j<=(n.log.length:Int)+1/\0<=iOf n.mat j/\iOf n.mat j<=(n.log.length:Int)
   rw[iOf_set]
   split<;>omega
 ·exact h
theorem OkN.rc1 {n:Nd} (h:OkN n) (m:Ms) (hm:m.term<=100000):OkN (rc1 n m)/\m.term<=(rc1 n m).term/\n.term<=(rc1 n m).term/\(rc1 n m).peers=n.peers/\(rc1 n m).id=n.id:=by
 unfold Go.Proofs.YtbabakgjkloabaaGreatDoor.rc1
 split
 ·next q=>exact⟨h.up q hm,Int.le_refl _,Int.le_of_lt q,rfl,rfl⟩
 ·next q=>exact⟨h,by omega,Int.le_refl _,rfl,rfl⟩
theorem OkN.rcv {n:Nd} (h:OkN n) (m:Ms):OkN (rcvN n m):=by
 unfold rcvN
 split
 ·next hF=>
  simp only[forB,srvB,Bool.and_eq_true,decide_eq_true_eq]at hF;obtain⟨_,_,hf,_,_,ht1,ht2,he,hl⟩:=hF;obtain⟨h1,h2,_,hp,_⟩:=h.rc1 m ht2;unfold rkN
  split
  ·exact h1.vy m (by rw[hp];exact hf)
  ·split
   ·exact h1.vd m ht1
   ·split
    ·exact h1.ap m he hl h2
    ·exact h1.apd m _ (by rw[hp];omega)
 ·exact h
structure Trn (n x:Nd):Prop where
 i:x.id=n.id
 p:x.peers=n.peers
 t:n.term<=x.term
 v:x.term=n.term->n.vote = -1\/x.vote=n.vote
 c:n.commit<=x.commit
theorem Trn.refl (n:Nd):Trn n n:=⟨rfl,rfl,Int.le_refl _,fun _=>.inr rfl,Int.le_refl _⟩
theorem Trn.trans {a b c:Nd} (h:Trn a b) (k:Trn b c):Trn a c:=⟨k.i.trans h.i,k.p.trans h.p,Int.le_trans h.t k.t,fun e=>by
 have h1:=h.t;have h2:=k.t;rcases h.v (by omega) with q|q
 ·exact .inl q
 ·rcases k.v (by omega) with q2|q2
  ·exact .inl (q ▸ q2)
  ·exact .inr (q2.trans q),Int.le_trans h.c k.c⟩
theorem ldA_same (n:Nd):(ldA n).id=n.id/\(ldA n).peers=n.peers/\(ldA n).term=n.term/\(ldA n).vote=n.vote/\(ldA n).commit=n.commit/\n.log.length<=(ldA n).log.length:=by
 unfold ldA
 split
 ·exact⟨rfl,rfl,rfl,rfl,rfl,by simp[prA,ldM]⟩
 ·exact⟨rfl,rfl,rfl,rfl,rfl,Nat.le_refl _⟩
theorem Trn.ld {n:Nd} (h:Bk n):Trn n (ldN n):=by
 have e:=ldA_same n
 have hb:=agrN_bd (matN (ldA n) n.id.toNat) (by
  show (ldA n).commit<=(ldA n).log.length
  have:=h.c
  omega)
 exact⟨e.1,e.2.1,Int.le_of_eq e.2.2.1.symm,fun _=>.inr e.2.2.2.1,by
  have h1:(matN (ldA n) n.id.toNat).commit=n.commit:=e.2.2.2.2.1;have h2:(ldN n).commit=agrN (matN (ldA n) n.id.toNat):=rfl
  omega⟩
theorem Trn.rk {n:Nd} (h:OkN n) (m:Ms):Trn n (rkN n m):=by
 unfold rkN
 split
 ·unfold vyN
  split
  ·next hb=>
   simp only[vyB,Bool.and_eq_true,Bool.or_eq_true,beq_iff_eq]at hb
   exact⟨rfl,rfl,Int.le_refl _,fun _=>by
    rcases hb.2.1 with q|q
    ·exact .inl q
    ·exact .inr q.symm,Int.le_refl _⟩
  ·exact Trn.refl n
 ·split
  ·unfold vdN
   split
   ·have b2:Bk (vd1 n m.frm):=⟨h.b.p,h.b.i,h.b.t,h.b.v,h.b.l,h.b.a,h.b.c⟩
    have h1:Trn n (vd1 n m.frm):=⟨rfl,rfl,Int.le_refl _,fun _=>.inr rfl,Int.le_refl _⟩
    split
    ·exact h1.trans (Trn.ld b2)
    ·exact h1
   ·exact Trn.refl n
  ·split
   ·unfold apnN
    split
    ·exact Trn.refl n
    ·split
     ·exact Trn.refl n
     ·split
      ·exact⟨rfl,rfl,Int.le_refl _,fun _=>.inr rfl,by simp only[apnG];omega⟩
      ·exact⟨rfl,rfl,Int.le_refl _,fun _=>.inr rfl,Int.le_refl _⟩
   ·unfold apdN
    split
    ·split
     ·exact⟨rfl,rfl,Int.le_refl _,fun _=>.inr rfl,(agrN_bd (axN (amN n m.frm.toNat (apdM n m m.frm.toNat)) m.frm.toNat (apdM n m m.frm.toNat+1)) h.b.c.2).1⟩
     ·exact⟨rfl,rfl,Int.le_refl _,fun _=>.inr rfl,Int.le_refl _⟩
    ·exact Trn.refl n
theorem Trn.rcv {n:Nd} (h:OkN n) (m:Ms):Trn n (rcvN n m):=by
 unfold rcvN
 split
 ·next hF=>
  simp only[forB,srvB,Bool.and_eq_true,decide_eq_true_eq]at hF;obtain⟨_,_,_,_,_,_,ht2,_,_⟩:=hF;have h1:=(h.rc1 m ht2).1;refine Trn.trans ?_ (Trn.rk h1 m);unfold Go.Proofs.YtbabakgjkloabaaGreatDoor.rc1
  split
  ·next q=>exact⟨rfl,rfl,Int.le_of_lt q,fun e=>by have e':m.term=n.term:=e;omega,Int.le_refl _⟩
  ·exact Trn.refl n
 ·exact Trn.refl n
def TxL (l:List En):Prop:=∀ k,k<l.length->(xOf l k).size<=1048576
theorem TxL.nil:TxL []:=fun k hk=>by simp at hk
theorem TxL.snoc {l:List En} {e:En} (h:TxL l) (he:e.x.size<=1048576):TxL (l++[e]):=fun k hk=>by
 rw[xOf_app l e k (by simp at hk;omega)]
 split
 ·next q=>exact h k q
 ·exact he
theorem TxL.drop {l:List En} (h:TxL l) (i:Nat):TxL (l.drop i):=fun k hk=>by
 have e:xOf (l.drop i) k=xOf l (i+k):=by simp[xOf,List.getD_eq_getElem?_getD]
 rw[e];exact h _ (by simp at hk;omega)
theorem TxL.take {l:List En} (h:TxL l) (i:Nat):TxL (l.take i):=fun k hk=>by
 have hk':k<i/\k<l.length:=by simp at hk;omega
 have e:xOf (l.take i) k=xOf l k:=by simp[xOf,List.getD_eq_getElem?_getD,List.getElem?_take,hk'.1]
 rw[e];exact h _ hk'.2
structure MsW (m:Ms):Prop where
 z:MsZ m
 ix:-9223372036854775808<=m.index/\m.index<=9223372036854775807
theorem MsW.none {m:Ms} (h:m.ents=[]) (ix:-9223372036854775808<=m.index/\m.index<=9223372036854775807):MsW m:=⟨⟨by rw[h];simp,fun k hk=>by rw[h]at hk;simp at hk⟩,ix⟩
theorem ldA_tx {n:Nd} (h:TxL n.log):TxL (ldA n).log:=by
 unfold ldA
 split
 ·exact TxL.snoc h (by simp[ldT];decide)
 ·exact h
theorem ldN_tx {n:Nd} (h:TxL n.log):TxL (ldN n).log:=ldA_tx h
theorem tmN_tx {n:Nd} (h:TxL n.log):TxL (tmN n).log:=by
 unfold tmN
 split
 ·split
  ·exact h
  ·split
   ·exact ldN_tx (n:=stN n) h
   ·exact h
 ·exact TxL.nil
theorem prN_tx {n:Nd} {t:ByteArray} (h:TxL n.log) (ht:t.size<=1048576):TxL (prN n t).log:=by
 unfold prN
 split
 ·split
  ·exact TxL.snoc h ht
  ·exact h
 ·exact TxL.nil
theorem mgL_tx {n:Nd} {m:Ms} (h:TxL n.log) (hm:TxL m.ents) (hF:mgF n m=true):TxL (mgL n m):=by
 obtain⟨h1,h2,h3,h4,_⟩:=mgF_facts hF;have h4':mOk n.log.length (tOf n.log) (xOf n.log) m.index m.ents.length (tOf m.ents) (xOf m.ents)=true:=h4
 have e1:mgL n m=lstE (mN n.log.length m.index.toNat m.ents.length (mgK n m)) (mV m.ents.length (mgK n m) m.index.toNat (tOf n.log) (tOf m.ents)) (mV m.ents.length (mgK n m) m.index.toNat (xOf n.log) (xOf m.ents)):=by
  unfold mgL mLen;rw[if_pos h4'];rfl
 have hin:m.index.toNat+mgK n m<=n.log.length:=agN_in (by omega);rw[e1];intro k hk;rw[lstE_len]at hk;rw[xOf_lst hk];unfold mV;unfold mN at hk
 by_cases q:mgK n m<m.ents.length
 ·rw[if_pos q]at hk ⊢
  unfold mrg
  split
  ·exact h _ (by omega)
  ·exact hm _ (by omega)
 ·rw[if_neg q]at hk ⊢
  exact h _ hk
theorem rcvN_tx {n:Nd} {m:Ms} (h:TxL n.log) (hm:MsZ m):TxL (rcvN n m).log:=by
 unfold rcvN
 split
 ·have h1:TxL (rc1 n m).log:=by
   unfold rc1
   split
   ·exact h
   ·exact h
  generalize rc1 n m=N at h1 ⊢;unfold rkN
  split
  ·unfold vyN
   split
   ·exact h1
   ·exact h1
  ·split
   ·unfold vdN
    split
    ·split
     ·exact ldN_tx (n:=vd1 N m.frm) h1
     ·exact h1
    ·exact h1
   ·split
    ·unfold apnN
     split
     ·exact h1
     ·split
      ·exact h1
      ·split
       ·next hF=>exact mgL_tx (n:=folN N) h1 hm.x hF
       ·exact h1
    ·unfold apdN
     split
     ·split
      ·exact h1
      ·exact h1
     ·exact h1
 ·exact h
theorem othL_mem {id:Int} {g:Nat->Ms}:∀ {k:Nat} {q:Ms},q∈othL id g k->∃ j,j<k/\q=g j
 | 0,q,hq=>by simp[othL]at hq
 | k+1,q,hq=>by
  unfold othL at hq
  split at hq
  ·obtain⟨j,hj,e⟩:=othL_mem hq
   exact⟨j,by omega,e⟩
  ·rcases List.mem_append.1 hq with r|r
   ·obtain⟨j,hj,e⟩:=othL_mem r
    exact⟨j,by omega,e⟩
   ·exact⟨k,by omega,List.mem_singleton.1 r⟩
theorem beat_w {n:Nd} (h:OkN n) (hr:n.role=3) (hx:TxL n.log):∀ q∈beatL n,MsW q:=fun q hq=>by
 obtain⟨j,hj,rfl⟩:=othL_mem hq;have hp:=h.b.p;have hL:=ldR_of h.r hr;have hrj:=hL.r j (by have:=hL.x;omega);have h1:((n.log.drop (nxtI n j)).take 5).length<=5:=by simp;omega
 have hl:=(logL_iff n.log).1 h.b.l |>.1
 refine⟨⟨by show ((n.log.drop (nxtI n j)).take 5).length<=1048576;omega,(hx.drop _).take 5⟩,?_⟩
 show -9223372036854775808<=((nxtI n j:Nat):Int)/\((nxtI n j:Nat):Int)<=9223372036854775807
 unfold nxtI;omega
theorem ldL_w {n:Nd} (h:OkN (ldN n)) (hx:TxL n.log):∀ q∈ldL n,MsW q:=beat_w h (by
 show (ldA n).role=3
 unfold ldA
 split<;>rfl) (ldN_tx hx)
theorem tmL_w {n:Nd} (h:OkN n) (hx:TxL n.log):∀ q∈tmL n,MsW q:=fun q hq=>by
 have h2:=h.tm;have hl:=(logL_iff n.log).1 h.b.l |>.1
 unfold tmL at hq;unfold tmN at h2;rw[if_pos h.B]at hq h2
 split at hq
 ·simp at hq
 ·next b1=>
  rw[if_neg b1]at h2
  split at hq
  ·next b2=>
   rw[if_pos b2]at h2;exact ldL_w h2 (by exact hx) q hq
  ·obtain⟨j,hj,rfl⟩:=othL_mem hq
   refine MsW.none rfl ?_
   show -9223372036854775808<=((n.log.length:Nat):Int)/\((n.log.length:Nat):Int)<=9223372036854775807
   omega
theorem rcvL_w {n:Nd} {m:Ms} (h:OkN n) (hx:TxL n.log) (hm:MsW m):∀ q∈rcvL n m,MsW q:=fun q hq=>by
 unfold rcvL at hq
 split at hq
 ·next hF=>
  simp only[forB,srvB,Bool.and_eq_true,decide_eq_true_eq]at hF;obtain⟨_,_,hf,_,_,ht1,ht2,he,hl⟩:=hF;obtain⟨h1,h2,_,hp,_⟩:=h.rc1 m ht2
  have hx1:TxL (rc1 n m).log:=by
   unfold rc1
   split
   ·exact hx
   ·exact hx
  generalize rc1 n m=N at h1 h2 hp hx1 hq;have hl1:=(logL_iff N.log).1 h1.b.l |>.1
  have hme:=hm.z.l;unfold rkL at hq
  split at hq
  ·rw[List.mem_singleton.1 hq]
   exact MsW.none rfl (by show -9223372036854775808<=(0:Int)/\(0:Int)<=9223372036854775807;omega)
  ·split at hq
   ·have h3:=h1.vd m ht1
    unfold vdL at hq;unfold vdN at h3
    split at hq
    ·next b1=>
     rw[if_pos b1]at h3
     split at hq
     ·next b2=>
      rw[if_pos b2]at h3;exact ldL_w h3 (by exact hx1) q hq
     ·simp at hq
    ·simp at hq
   ·split at hq
    ·unfold apnL at hq
     split at hq
     ·rw[List.mem_singleton.1 hq]
      exact MsW.none rfl (by show -9223372036854775808<=(0:Int)/\(0:Int)<=9223372036854775807;omega)
     ·split at hq
      ·simp at hq
      ·split at hq
       ·next hG=>
        obtain⟨_,g2,g3,_,_⟩:=mgF_facts hG;have g3':m.index<=(N.log.length:Int):=g3;rw[List.mem_singleton.1 hq];exact MsW.none rfl (by show -9223372036854775808<=apnR m/\apnR m<=9223372036854775807;unfold apnR;omega)
       ·rw[List.mem_singleton.1 hq]
        exact MsW.none rfl (by show -9223372036854775808<=(min (N.log.length:Int) (max m.index 1-1))/\(min (N.log.length:Int) (max m.index 1-1))<=9223372036854775807;omega)
    ·simp at hq
 ·simp at hq
theorem votes_len (p:Int):∀ (l:List Int) (a:Int),0<=a->a<=p->votesB p a l=true->(l.length:Int)<=p-a
 | [],a,_,h,_=>by simp;omega
 | x :: r,a,h0,h1,h=>by
  simp only[votesB,Bool.and_eq_true,decide_eq_true_eq]at h;have:=votes_len p r (x+1) (by omega) (by omega) h.2.2;simp;omega
theorem OkN.few {n:Nd} (h:OkN n):n.log.length<=200/\n.votes.length<=5/\n.next.length<=5/\n.mat.length<=5:=by
 have hl:=(logL_iff n.log).1 h.b.l |>.1
 have hp:=h.b.p;have hr:=h.r;refine⟨hl,?_⟩;unfold roleB at hr
 split at hr
 ·next q=>
  have hL:=ldR_of h.r q;have:=votes_len n.peers n.votes 0 (by omega) (by omega) hL.v;have h1:=hL.x;have h2:=hL.m;omega
 ·split at hr
  ·simp at hr
   simp[hr]
  ·split at hr
   ·simp at hr
    have:=votes_len n.peers n.votes 0 (by omega) (by omega) hr.1;simp[hr];omega
   ·cases hr
structure OkW (n:Nd):Prop where
 b:Bk n
 r:roleB n=true
 z:n.role=3->0<n.term
theorem OkW.B {n:Nd} (h:OkW n):nodeB n=true:=(nodeB_bk n).2 ⟨h.b,h.r⟩
theorem OkW.R {n:Nd} (h:OkW n):nodeR n=true:=by
 rw[nodeR,h.B,Bool.true_and];rcases Bool.eq_false_or_eq_true (n.role==3) with q|q
 ·have:=h.z (by simpa using q)
  simp[q];omega
 ·simp[q]
theorem OkW.fol {n:Nd} (h:Bk n) (h1:n.role=1) (h2:n.votes=[]) (h3:n.next=[]) (h4:n.mat=[]):OkW n:=⟨h,by simp[roleB,h1,h2,h3,h4],fun q=>by omega⟩
theorem OkW.mi {n:Nd} (b:Bk n) (h:LdR n) (hr:n.role=3) (ht:0<n.term) (i:Nat):OkW (miN n i):=by
 have hb:=agrN_bd (matN n i) b.c.2
 have h2:LdR (miN n i):=⟨h.v,h.x,by simp only[miN,List.length_set];exact h.m,fun j hj=>by
  have hrj:=h.r j hj
  show 1<=iOf n.next j/\iOf n.next j<=n.log.length+1/\0<=iOf (n.mat.set i n.log.length) j/\iOf (n.mat.set i n.log.length) j<=n.log.length
  rw[iOf_set]
  split<;>omega⟩
 exact⟨⟨b.p,b.i,b.t,b.v,b.l,b.a,⟨Int.le_trans b.c.1 hb.1,hb.2⟩⟩,h2.role hr,fun _=>ht⟩
theorem OkW.ld {n:Nd} (b:Bk n) (hv:votesB n.peers 0 n.votes=true) (ht:0<n.term):OkW (ldN n):=by
 have b1:Bk (ldM n):=⟨b.p,b.i,b.t,b.v,b.l,b.a,b.c⟩
 have hp:=b.p
 have l1:LdR (ldM n):=⟨hv,by simp[ldM];omega,by simp[ldM];omega,fun i hi=>by
  have hi':i<n.peers.toNat:=by simpa[ldM] using hi
  simp only[ldM];rw[iOf_rep _ _ _ hi',iOf_rep _ _ _ hi']
  omega⟩
 unfold ldN ldA
 split
 ·next hr=>exact OkW.mi (b1.pr hr ldT_c) (l1.pr _) rfl ht _
 ·next hr=>
  exact OkW.mi b1 l1 rfl ht _
theorem OkW.tm {n:Nd} (h:OkW n):OkW (tmN n):=by
 unfold tmN;rw[if_pos h.B]
 split
 ·exact h
 ·next hb=>
  have hb':n.role≠3/\n.term≠100000:=by simpa[tmB] using hb
  have ht:=h.b.t;have hi:=h.b.i;have b2:Bk (stN n):=⟨h.b.p,h.b.i,by simp only[stN];omega,.inr h.b.i,h.b.l,by have:=h.b.a;simp only[stN];omega,h.b.c⟩
  have v2:votesB (stN n).peers 0 (stN n).votes=true:=by simp[stN,votesB,hi.1,hi.2]
  split
  ·exact OkW.ld b2 v2 (by simp only[stN];omega)
  ·refine⟨b2,?_,fun q=>by simp[stN]at q⟩
   have hr:=h.r;simp only[roleB,if_neg hb'.1]at hr
   have:n.next=[]/\n.mat=[]:=by
    split at hr
    ·simp at hr;exact hr.2
    ·split at hr
     ·simp at hr;exact hr.2
     ·cases hr
   have v3:votesB n.peers 0 [n.id]=true:=v2;simp[roleB,stN,this.1,this.2,v3]
theorem OkW.pr {n:Nd} (h:OkW n) (t:ByteArray):OkW (prN n t):=by
 unfold prN;rw[if_pos h.B]
 split
 ·next hp=>
  simp only[prB,Bool.and_eq_true,beq_iff_eq]at hp;exact OkW.mi (h.b.pr hp.2.2 hp.1) ((ldR_of h.r hp.2.1).pr t) hp.2.1 (h.z hp.2.1) _
 ·exact h
theorem OkW.rs {n:Nd} (h:OkW n):OkW (rsO n):=OkW.fol ⟨h.b.p,h.b.i,h.b.t,h.b.v,h.b.l,h.b.a,⟨Int.le_refl _,by simp[rsO]⟩⟩ rfl rfl rfl rfl
theorem OkW.up {n:Nd} (h:OkW n) {t:Int} (h1:n.term<t) (h2:t<=100000):OkW (upN n t):=OkW.fol ⟨h.b.p,h.b.i,by have:=h.b.t;simp only[upN];omega,.inl rfl,h.b.l,by have:=h.b.a;simp only[upN];omega,h.b.c⟩ rfl rfl rfl rfl
theorem OkW.fo {n:Nd} (h:OkW n):OkW (folN n):=OkW.fol ⟨h.b.p,h.b.i,h.b.t,h.b.v,h.b.l,h.b.a,h.b.c⟩ rfl rfl rfl rfl
theorem OkW.vd {n:Nd} (h:OkW n) (m:Ms) (hm:1<=m.term):OkW (vdN n m):=by
 unfold vdN
 split
 ·next hb=>
  simp only[vdB,Bool.and_eq_true,beq_iff_eq]at hb;have hp:=h.b.p;have hv:=vsL_ok n.peers (by omega) n.votes m.frm;have b2:Bk (vd1 n m.frm):=⟨h.b.p,h.b.i,h.b.t,h.b.v,h.b.l,h.b.a,h.b.c⟩
  split
  ·exact OkW.ld b2 hv (by show 0<n.term;omega)
  ·have hr:=h.r
   simp only[roleB,hb.1,Bool.and_eq_true]at hr;refine⟨b2,?_,fun q=>by have q':n.role=3:=q;omega⟩;simp only[roleB,vd1,hb.1];simp at hr ⊢;exact⟨hv,hr.2⟩
 ·exact h
theorem OkW.vy {n:Nd} (h:OkW n) (m:Ms) (hf:0<=m.frm/\m.frm<n.peers):OkW (vyN n m):=by
 unfold vyN
 split
 ·exact⟨⟨h.b.p,h.b.i,h.b.t,.inr hf,h.b.l,h.b.a,h.b.c⟩,h.r,h.z⟩
 ·exact h
theorem OkW.ap {n:Nd} (h:OkW n) (m:Ms) (he:logL m.ents=true) (hl:lastL m.ents<=m.term) (hm:m.term<=n.term):OkW (apnN n m):=by
 unfold apnN
 split
 ·exact h
 ·split
  ·exact h
  ·split
   ·next hF=>
    obtain⟨h1,h2,h3,h4,h5⟩:=mgF_facts hF;obtain⟨g1,g2,g3⟩:=mgL_facts hF he;have ha:=h.b.a;have hc:=h.b.c;have g2':lastL (mgL (folN n) m)<=max (lastL n.log) (lastL m.ents):=g2;have h5':n.commit<=(mgL (folN n) m).length:=h5;exact OkW.fol ⟨h.b.p,h.b.i,h.b.t,h.b.v,g1,by show lastL (mgL (folN n) m)<=n.term;omega,by show 0<=max n.commit (min m.commit (apnR m))/\max n.commit (min m.commit (apnR m))<=((mgL (folN n) m).length:Int);omega⟩ rfl rfl rfl rfl
   ·exact h.fo
theorem OkW.apd {n:Nd} (h:OkW n) (m:Ms) (fr:Nat) (hf:(fr:Int)<n.peers):OkW (apdN n m fr):=by
 unfold apdN
 split
 ·next hb=>
  have hL:=ldR_of h.r hb.1;have hz:=h.z hb.1;have hx:fr<n.next.length:=by have:=hL.x;omega
  have hm:fr<n.mat.length:=by have:=hL.m;omega
  have hr:=hL.r fr hx
  split
  ·have c2:=agrN_bd (axN (amN n fr (apdM n m fr)) fr (apdM n m fr+1)) h.b.c.2
   have c1:=h.b.c.1;have hM:iOf n.mat fr<=apdM n m fr/\apdM n m fr<=n.log.length:=by unfold apdM;split<;>omega
   refine⟨⟨h.b.p,h.b.i,h.b.t,h.b.v,h.b.l,h.b.a,⟨Int.le_trans c1 c2.1,c2.2⟩⟩,LdR.role ⟨hL.v,by simp[acN,axN,amN];exact hL.x,by simp[acN,axN,amN];exact hL.m,fun j hj=>?_⟩ hb.1,h.z⟩;have hrj:=hL.r j (by simpa[acN,axN,amN] using hj)
   show 1<=iOf (n.next.set fr _) j/\iOf (n.next.set fr _) j<=(n.log.length:Int)+1/\0<=iOf (n.mat.set fr _) j/\iOf (n.mat.set fr _) j<=(n.log.length:Int)
   rw[iOf_set,iOf_set]
   split<;>split<;>omega
  ·have hX:1<=apdX n m fr/\apdX n m fr<=n.log.length+1:=by unfold apdX;omega
   refine⟨⟨h.b.p,h.b.i,h.b.t,h.b.v,h.b.l,h.b.a,h.b.c⟩,LdR.role ⟨hL.v,by simp[axN];exact hL.x,hL.m,fun j hj=>?_⟩ hb.1,h.z⟩;have hrj:=hL.r j (by simpa[axN] using hj)
   show 1<=iOf (n.next.set fr _) j/\iOf (n.next.set fr _) j<=(n.log.length:Int)+1/\0<=iOf n.mat j/\iOf n.mat j<=(n.log.length:Int)
   rw[iOf_set]
   split<;>omega
 ·exact h
theorem OkW.rc1 {n:Nd} (h:OkW n) (m:Ms) (hm:m.term<=100000):OkW (rc1 n m)/\m.term<=(rc1 n m).term/\n.term<=(rc1 n m).term/\(rc1 n m).peers=n.peers/\(rc1 n m).id=n.id:=by
 unfold Go.Proofs.YtbabakgjkloabaaGreatDoor.rc1
 split
 ·next q=>exact⟨h.up q hm,Int.le_refl _,Int.le_of_lt q,rfl,rfl⟩
 ·next q=>exact⟨h,by omega,Int.le_refl _,rfl,rfl⟩
theorem OkW.rcv {n:Nd} (h:OkW n) (m:Ms):OkW (rcvN n m):=by
 unfold rcvN
 split
 ·next hF=>
  simp only[forB,srvB,Bool.and_eq_true,decide_eq_true_eq]at hF;obtain⟨_,_,hf,_,_,ht1,ht2,he,hl⟩:=hF;obtain⟨h1,h2,_,hp,_⟩:=h.rc1 m ht2;unfold rkN
  split
  ·exact h1.vy m (by rw[hp];exact hf)
  ·split
   ·exact h1.vd m ht1
   ·split
    ·exact h1.ap m he hl h2
    ·exact h1.apd m _ (by rw[hp];omega)
 ·exact h
theorem TrnW.rk {n:Nd} (h:OkW n) (m:Ms):Trn n (rkN n m):=by
 unfold rkN
 split
 ·unfold vyN
  split
  ·next hb=>
   simp only[vyB,Bool.and_eq_true,Bool.or_eq_true,beq_iff_eq]at hb
   exact⟨rfl,rfl,Int.le_refl _,fun _=>by
    rcases hb.2.1 with q|q
    ·exact .inl q
    ·exact .inr q.symm,Int.le_refl _⟩
  ·exact Trn.refl n
 ·split
  ·unfold vdN
   split
   ·have b2:Bk (vd1 n m.frm):=⟨h.b.p,h.b.i,h.b.t,h.b.v,h.b.l,h.b.a,h.b.c⟩
    have h1:Trn n (vd1 n m.frm):=⟨rfl,rfl,Int.le_refl _,fun _=>.inr rfl,Int.le_refl _⟩
    split
    ·exact h1.trans (Trn.ld b2)
    ·exact h1
   ·exact Trn.refl n
  ·split
   ·unfold apnN
    split
    ·exact Trn.refl n
    ·split
     ·exact Trn.refl n
     ·split
      ·exact⟨rfl,rfl,Int.le_refl _,fun _=>.inr rfl,by simp only[apnG];omega⟩
      ·exact⟨rfl,rfl,Int.le_refl _,fun _=>.inr rfl,Int.le_refl _⟩
   ·unfold apdN
    split
    ·split
     ·exact⟨rfl,rfl,Int.le_refl _,fun _=>.inr rfl,(agrN_bd (axN (amN n m.frm.toNat (apdM n m m.frm.toNat)) m.frm.toNat (apdM n m m.frm.toNat+1)) h.b.c.2).1⟩
     ·exact⟨rfl,rfl,Int.le_refl _,fun _=>.inr rfl,Int.le_refl _⟩
    ·exact Trn.refl n
theorem TrnW.rcv {n:Nd} (h:OkW n) (m:Ms):Trn n (rcvN n m):=by
 unfold rcvN
 split
 ·next hF=>
  simp only[forB,srvB,Bool.and_eq_true,decide_eq_true_eq]at hF;obtain⟨_,_,_,_,_,_,ht2,_,_⟩:=hF;have h1:=(h.rc1 m ht2).1;refine Trn.trans ?_ (TrnW.rk h1 m);unfold Go.Proofs.YtbabakgjkloabaaGreatDoor.rc1
  split
  ·next q=>exact⟨rfl,rfl,Int.le_of_lt q,fun e=>by have e':m.term=n.term:=e;omega,Int.le_refl _⟩
  ·exact Trn.refl n
 ·exact Trn.refl n
def GdW (n:Nd):Prop:=nodeB n=true->n.role=3->0<n.term
theorem GdW.ok {n:Nd} (h:GdW n) (hB:nodeB n=true):OkW n:=⟨((nodeB_bk n).1 hB).1,((nodeB_bk n).1 hB).2,h hB⟩
theorem GdW.R {n:Nd} (h:GdW n):nodeR n=nodeB n:=by
 rcases Bool.eq_false_or_eq_true (nodeB n) with q|q
 ·rw[q];exact (h.ok q).R
 ·rw[nodeR,q];rfl
theorem lastL_pos {l:List En} (h:logL l=true) (hl:l≠[]):1<=lastL l:=by
 have hp:0<l.length:=List.length_pos_iff.2 hl;have:=(logL_iff l).1 h |>.2 (l.length-1) (by omega)
 simp only[logAt,Bool.and_eq_true,decide_eq_true_eq]at this;unfold lastL lastT;rw[if_neg (by omega)];exact this.2.1
theorem GdW.of {n:Nd} (h:n.role=3->0<n.term):GdW n:=fun _=>h
theorem GdW.tm {n:Nd} (h:n.role=3->n.log≠[]):GdW n:=fun hB hr=>by
 have b:=((nodeB_bk n).1 hB).1;have:=lastL_pos b.l (h hr);have:=b.a;omega
theorem GdW.ro {n:Nd} (h:n.role=3->n.next=[]):GdW n:=fun hB hr=>by
 obtain⟨b,r⟩:=(nodeB_bk n).1 hB;have:=(ldR_of r hr).x;rw[h hr]at this;have hp:=b.p;simp at this;omega
theorem OkN.nx {n:Nd} (h:OkN n) (hr:n.role≠3):n.next=[]:=by
 have hr':=h.r;simp only[roleB,if_neg hr]at hr'
 split at hr'
 ·simp at hr';exact hr'.2.1
 ·split at hr'
  ·simp at hr';exact hr'.2.1
  ·cases hr'
theorem OkN.W {n:Nd} (h:OkN n):OkW n:=⟨h.b,h.r,fun q=>(h.z q).1⟩
theorem OkW.few {n:Nd} (h:OkW n):n.log.length<=200/\n.votes.length<=5/\n.next.length<=5/\n.mat.length<=5:=by
 have hl:=(logL_iff n.log).1 h.b.l |>.1
 have hp:=h.b.p;have hr:=h.r;refine⟨hl,?_⟩;unfold roleB at hr
 split at hr
 ·next q=>
  have hL:=ldR_of h.r q;have:=votes_len n.peers n.votes 0 (by omega) (by omega) hL.v;have h1:=hL.x;have h2:=hL.m;omega
 ·split at hr
  ·simp at hr
   simp[hr]
  ·split at hr
   ·simp at hr
    have:=votes_len n.peers n.votes 0 (by omega) (by omega) hr.1;simp[hr];omega
   ·cases hr
theorem OkW.votes {n:Nd} (h:OkW n):votesB n.peers 0 n.votes=true:=by
 have hr:=h.r;unfold roleB at hr
 split at hr
 ·simp only[Bool.and_eq_true]at hr;exact hr.1
 ·split at hr
  ·simp at hr;rw[hr.1];rfl
  ·split at hr
   ·simp only[Bool.and_eq_true]at hr;exact hr.1
   ·cases hr
theorem OkW.zz {n:Nd} {s:NdS} (h:OkW n) (ht:TxL n.log) (k1:n.log.length<=s.lc) (k2:n.votes.length<=s.vc) (k3:n.next.length<=s.nc) (k4:n.mat.length<=s.mc):NdZ n s:=by
 have hf:=h.few;exact⟨by omega,by omega,by omega,by omega,k1,k2,k3,k4,ht⟩
end
section
open Go Go.RowKit
attribute [local go_sem ↓] Go.wp_at_zero Go.wp_at_succ
section
variable {P:Program} {ops:Array Oper} {a0:Act} {w0:World} {R:World->World->Prop} {Pr:Nat->Value->World->Prop} {i:Nat} {o:Oper}
theorem OpOk.sVal (j d:Nat) (b:Bool) (hPj:∀ v w,Pr j v w->v=.bool b)
  (h:∀ (ev:Operand->Value) (w:World) (v:Nat->Value),R w0 w->EvOk ops a0 o v ev->(∀ j,j<ops.size->waitsB o j=true->Pr j (v j) w)->∃ u w',(execOp ev o).run P w=.ok (.value u) w'/\R w w'/\Pr i u w')
  (hg:o.guard=some (j,b):=by rfl) (h1:(ops[j]?).bind (·.dst)=some d:=by rfl) (h2:waitsB o j=true:=by kernel_rfl) (h3:Nat.blt d a0.tmps.size=true:=by kernel_rfl) (h4:Nat.blt j ops.size=true:=by kernel_rfl):OpOk P ops a0 w0 R Pr i o:=by
 intro a w v Q hRw hd hpr hb
 have E:EvOk ops a0 o v a.eval:=⟨fun j d hj hw hlt=>by
  cases ho:ops[j]? with
  | none=>rw[ho]at hj;cases hj
  | some p=>
   rw[ho]at hj
   exact hd j p d ho hj hlt (waitsB_for hw),fun d hn=>hb d fun j p hj=>noDstB_spec hn j p hj,fun _=>rfl,fun _=>rfl,fun _=>rfl⟩
 have hpr':∀ j,j<ops.size->waitsB o j=true->Pr j (v j) w:=fun j hj hw=>hpr j hj (waitsB_for hw)
 have he:=hPj _ _ (E.get hpr' j d h1 h2 h3 h4);rw[wanted_gd (Cj:=true) (bj:=b) hg h1 he,if_pos (by simp)];obtain⟨u,w',hr,h5,h6⟩:=h a.eval w v hRw E hpr';unfold Oper.wp;rw[hr];exact⟨u,rfl,h5,h6⟩
theorem OpOk.sGet (hR:∀ w,R w w) (j d:Nat) (b:Bool) (hPj:∀ v w,Pr j v w->v=.bool b) (u:Value) (hp:∀ w,Pr i u w)
  (h:∀ (ev:Operand->Value) (w:World) (v:Nat->Value),R w0 w->EvOk ops a0 o v ev->(∀ j,j<ops.size->waitsB o j=true->Pr j (v j) w)->(execOp ev o).run P w=.ok (.value u) w)
  (hg:o.guard=some (j,b):=by rfl) (h1:(ops[j]?).bind (·.dst)=some d:=by rfl) (h2:waitsB o j=true:=by kernel_rfl) (h3:Nat.blt d a0.tmps.size=true:=by kernel_rfl) (h4:Nat.blt j ops.size=true:=by kernel_rfl):OpOk P ops a0 w0 R Pr i o:=
 OpOk.sVal j d b hPj (fun ev w v h1 h2 h3=>⟨u,w,h ev w v h1 h2 h3,hR w,hp w⟩) hg h1 h2 h3 h4
theorem OpOk.sCall (j d:Nat) (b:Bool) (hPj:∀ v w,Pr j v w->v=.bool b)
  (h:∀ (ev:Operand->Value) (w:World) (v:Nat->Value),R w0 w->EvOk ops a0 o v ev->(∀ j,j<ops.size->waitsB o j=true->Pr j (v j) w)->∃ f args,(execOp ev o).run P w=.ok (.enter f args) w/\Calls P f args w fun e w'=>∃ u,e=.returned u/\R w w'/\Pr i u w')
  (hg:o.guard=some (j,b):=by rfl) (h1:(ops[j]?).bind (·.dst)=some d:=by rfl) (h2:waitsB o j=true:=by kernel_rfl) (h3:Nat.blt d a0.tmps.size=true:=by kernel_rfl) (h4:Nat.blt j ops.size=true:=by kernel_rfl):OpOk P ops a0 w0 R Pr i o:=by
 intro a w v Q hRw hd hpr hb
 have E:EvOk ops a0 o v a.eval:=⟨fun j d hj hw hlt=>by
  cases ho:ops[j]? with
  | none=>rw[ho]at hj;cases hj
  | some p=>
   rw[ho]at hj
   exact hd j p d ho hj hlt (waitsB_for hw),fun d hn=>hb d fun j p hj=>noDstB_spec hn j p hj,fun _=>rfl,fun _=>rfl,fun _=>rfl⟩
 have hpr':∀ j,j<ops.size->waitsB o j=true->Pr j (v j) w:=fun j hj hw=>hpr j hj (waitsB_for hw)
 have he:=hPj _ _ (E.get hpr' j d h1 h2 h3 h4);rw[wanted_gd (Cj:=true) (bj:=b) hg h1 he,if_pos (by simp)];obtain⟨f,args,hr,hcl⟩:=h a.eval w v hRw E hpr';unfold Oper.wp;rw[hr];refine Calls.mono hcl ?_;rintro e w' ⟨u,rfl,h5,h6⟩;exact⟨u,rfl,h5,h6⟩
theorem OpOk.never (j d:Nat) (b:Bool) (hPj:∀ v w,Pr j v w->v=.bool (!b)\/v=undef) (hp:∀ w,Pr i undef w)
  (hg:o.guard=some (j,b):=by rfl) (h1:(ops[j]?).bind (·.dst)=some d:=by rfl) (h2:waitsB o j=true:=by kernel_rfl) (h3:Nat.blt d a0.tmps.size=true:=by kernel_rfl) (h4:Nat.blt j ops.size=true:=by kernel_rfl):OpOk P ops a0 w0 R Pr i o:=by
 intro a w v Q hRw hd hpr hb
 have E:EvOk ops a0 o v a.eval:=⟨fun j d hj hw hlt=>by
  cases ho:ops[j]? with
  | none=>rw[ho]at hj;cases hj
  | some p=>
   rw[ho]at hj
   exact hd j p d ho hj hlt (waitsB_for hw),fun d hn=>hb d fun j p hj=>noDstB_spec hn j p hj,fun _=>rfl,fun _=>rfl,fun _=>rfl⟩
 have hpr':∀ j,j<ops.size->waitsB o j=true->Pr j (v j) w:=fun j hj hw=>hpr j hj (waitsB_for hw)
 have he:=hPj _ _ (E.get hpr' j d h1 h2 h3 h4);rcases he with he|he
 ·rw[wanted_gd (Cj:=true) (bj:=!b) hg h1 he,if_neg (by simp)]
  exact hp w
 ·rw[wanted_gd (Cj:=false) (bj:=b) hg h1 he,if_neg (by simp)]
  exact hp w
end
theorem RB.dr {W W':World} (h:RB W.drew W'):RB W W':=RB.trans _ _ _ (show RB W W.drew from (Below.refl _ _).drew) h
def BxLw (W:World) (b:Nat) (n:Nd) (s:NdS):Prop:=NdB W b n s/\NdM W n s
theorem BxLw.next {W W':World} {b:Nat} {n:Nd} {s:NdS} (h:BxLw W b n s) (hb:RB W W'):BxLw W' b n s:=⟨VHas.next h.1 hb,h.2.next hb⟩
def FewN (n:Nd):Prop:=n.log.length<=1048576/\n.votes.length<=1048576/\n.next.length<=1048576/\n.mat.length<=1048576
theorem few0:FewN nd0:=by simp[FewN,nd0]
theorem OkW.fewN {n:Nd} (h:OkW n):FewN n:=by
 have:=h.few;unfold FewN;omega
def FewM (l:List Ms):Prop:=l.length<=1048576/\∀ q∈l,q.ents.length<=1048576
theorem fewM0:FewM []:=by simp[FewM]
theorem beat_few {n:Nd} (hp:n.peers<=5):FewM (beatL n):=by
 refine⟨?_,fun q hq=>?_⟩
 ·have:=othL_len n.id (fun k=>appM n (nxtI n k) k) n.peers.toNat
  unfold beatL;omega
 ·obtain⟨j,hj,rfl⟩:=othL_mem hq
  show ((n.log.drop (nxtI n j)).take 5).length<=1048576
  simp;omega
theorem GdW.tmN {n:Nd} (h:GdW n):FewN (tmN n):=by
 rcases Bool.eq_false_or_eq_true (nodeB n) with hB|hB
 ·exact (h.ok hB).tm.fewN
 ·unfold Go.Proofs.YtbabakgjkloabaaGreatDoor.tmN
  rw[hB];exact few0
theorem GdW.tmL {n:Nd} (h:GdW n):FewM (tmL n):=by
 unfold Go.Proofs.YtbabakgjkloabaaGreatDoor.tmL
 split
 ·next hB=>
  have hp:=(nodeB_peers hB).2.1
  split
  ·exact fewM0
  ·split
   ·refine beat_few ?_
    have e:(ldN (stN n)).peers=(stN n).peers:=by
     show (ldA (stN n)).peers = _
     unfold ldA
     split<;>rfl
    rw[e];exact hp
   ·refine⟨?_,fun q hq=>?_⟩
    ·have:=othL_len n.id (fun k=>voteM (stN n) (k:Int)) n.peers.toNat
     omega
    ·obtain⟨j,hj,rfl⟩:=othL_mem hq
     simp[voteM]
 ·exact fewM0
theorem GdW.beat {n:Nd} (h:GdW n):FewM (beatB n):=by
 unfold beatB
 split
 ·next hB=>
  simp at hB;exact beat_few (nodeB_peers hB.1).2.1
 ·exact fewM0
theorem GdW.rst {n:Nd} (h:GdW n):FewN (rstN n):=by
 unfold rstN
 split
 ·next hB=>
  have:=(h.ok hB).fewN;exact⟨this.1,by simp,by simp,by simp⟩
 ·exact few0
theorem GdW.prN {n:Nd} (h:GdW n) (t:ByteArray):FewN (prN n t):=by
 rcases Bool.eq_false_or_eq_true (nodeB n) with hB|hB
 ·exact ((h.ok hB).pr t).fewN
 ·unfold Go.Proofs.YtbabakgjkloabaaGreatDoor.prN
  rw[hB];exact few0
theorem GdW.eqs {n:Nd} (h:GdW n):tsN n=Go.Proofs.YtbabakgjkloabaaGreatDoor.tmN n/\tsL n=Go.Proofs.YtbabakgjkloabaaGreatDoor.tmL n/\bsL n=beatB n/\rsN n=rstN n:=by
 unfold tsN tsL bsL rsN rstN beatB Go.Proofs.YtbabakgjkloabaaGreatDoor.tmN Go.Proofs.YtbabakgjkloabaaGreatDoor.tmL;rw[h.R];cases nodeB n<;>simp[rsO]
theorem GdW.eqp {n:Nd} (h:GdW n) (t:ByteArray):psN n t=Go.Proofs.YtbabakgjkloabaaGreatDoor.prN n t/\psK n t=prK n t:=by
 unfold psN psK Go.Proofs.YtbabakgjkloabaaGreatDoor.prN prK;rw[h.R];cases nodeB n<;>simp
theorem prK_pos {n:Nd} {t:ByteArray} (h:0<prK n t):nodeB n=true/\prB n t=true/\prK n t=n.log.length+1/\(Go.Proofs.YtbabakgjkloabaaGreatDoor.prN n t).log=n.log++[⟨n.term,t⟩]:=by
 unfold prK at h ⊢;unfold Go.Proofs.YtbabakgjkloabaaGreatDoor.prN
 split at h
 ·next hB=>
  split at h
  ·next hp=>simp[hB,hp,miN,prA]
  ·omega
 ·omega
theorem tm_two {n:Nd} (hB:nodeB n=true):(Go.Proofs.YtbabakgjkloabaaGreatDoor.tmN n=n/\Go.Proofs.YtbabakgjkloabaaGreatDoor.tmL n=[])\/((Go.Proofs.YtbabakgjkloabaaGreatDoor.tmN n).term=n.term+1/\(Go.Proofs.YtbabakgjkloabaaGreatDoor.tmN n).vote=n.id):=by
 unfold Go.Proofs.YtbabakgjkloabaaGreatDoor.tmN Go.Proofs.YtbabakgjkloabaaGreatDoor.tmL;rw[if_pos hB,if_pos hB]
 split
 ·exact .inl ⟨rfl,rfl⟩
 ·refine .inr ?_
  split
  ·show (ldA (stN n)).term = _/\(ldA (stN n)).vote = _
   unfold ldA
   split<;>exact⟨rfl,rfl⟩
  ·exact⟨rfl,rfl⟩
theorem tm_nil {n:Nd} (hB:nodeB n=false):Go.Proofs.YtbabakgjkloabaaGreatDoor.tmN n=nd0/\rstN n=nd0:=by
 unfold Go.Proofs.YtbabakgjkloabaaGreatDoor.tmN rstN;rw[hB];exact⟨rfl,rfl⟩
theorem bx0 (W:World):NdM W nd0 ns0:=⟨LRow.nil,LRow.nil,LRow.nil,LRow.nil⟩
end
section
open Go.RowKit
attribute [local go_sem ↓] Go.wp_at_zero Go.wp_at_succ
def ByRow (w:World) (base:Nat) (ao:Option Addr) (n:Nat):Prop:=∀ k,k<n->∃ b o v,ao=some ⟨b,o,none⟩/\b<base/\w.cell? ⟨b,o+k,none⟩=some (.int .u8 v)/\0<=v/\v<=255
def curV (s:Value) (i h:Int) (j:Nat):Value:=if j=0 then s else if j=1 then .int .i64 i else .int .i64 h
structure CurAt (w:World) (base c:Nat) (ao:Option Addr) (n cap:Nat):Prop where
 ge:base<=c
 len:n<=4096
 by_:ByRow w base ao n
 cur:∃ i h:Int,0<=i/\i<=(n:Int)/\VHas w c 83 3 (curV (.slice ao n cap) i h)
theorem ByRow.grown {w w':World} {base:Nat} {ao:Option Addr} {n x:Nat} (h:ByRow w base ao n) (hg:w.grownBy w' (some x)) (hx:base<=x):ByRow w' base ao n:=fun k hk=>by
 obtain⟨b,o,v,e,hb,hc,hv⟩:=h k hk;exact⟨b,o,v,e,hb,hg.cell hc (by simp;omega),hv⟩
theorem ByRow.below {w w':World} {base:Nat} {ao:Option Addr} {n B:Nat} (h:ByRow w base ao n) (hb:Below B w w') (hB:base<=B):ByRow w' base ao n:=fun k hk=>by
 obtain⟨b,o,v,e,hlt,hc,hv⟩:=h k hk;exact⟨b,o,v,e,hlt,by rw[hb.cell (by simp;omega)];exact hc,hv⟩
theorem CurAt.lt {w:World} {base c:Nat} {ao:Option Addr} {n cap:Nat} (h:CurAt w base c ao n cap):c<w.heap.size:=by
 obtain⟨_,_,_,_,hv⟩:=h.cur;exact hv.lt
theorem CurAt.grown {w w':World} {base c x:Nat} {ao:Option Addr} {n cap:Nat} (h:CurAt w base c ao n cap) (hg:w.grownBy w' (some x)) (hx:base<=x) (hne:c≠x):CurAt w' base c ao n cap:=by
 obtain⟨i,hh,h0,h1,hv⟩:=h.cur;exact⟨h.ge,h.len,h.by_.grown hg hx,i,hh,h0,h1,hv.grown hg (by simp;exact hne)⟩
theorem CurAt.next {w w':World} {base c:Nat} {ao:Option Addr} {n cap:Nat} (h:CurAt w base c ao n cap) (hb:Below w.heap.size w w'):CurAt w' base c ao n cap:=by
 obtain⟨i,hh,h0,h1,hv⟩:=h.cur;have:=h.ge;have:=hv.lt;exact⟨h.ge,h.len,h.by_.below hb (by omega),i,hh,h0,h1,hv.next hb⟩
theorem and255 (y:Int):0<=bits .and .i64 y 255/\bits .and .i64 y 255<=255:=by
 have h:(BitVec.ofInt 64 y &&& BitVec.ofInt 64 255).toNat<=255:=by
  rw[BitVec.toNat_and];exact Nat.le_trans Nat.and_le_right (by decide)
 have e:bits .and .i64 y 255=IntKind.i64.wrap ((BitVec.ofInt 64 y &&& BitVec.ofInt 64 255).toNat:Int):=rfl;rw[e,IntKind.wrap_i64];omega
theorem cur_h {w:World} {c:Nat} {s:Value} {i h:Int} (hv:VHas w c 83 3 (curV s i h)) (h':Int):VHas (w.setCell ⟨c,2,none⟩ (.int .i64 h')) c 83 3 (curV s i h'):=
 (hv.set 2 _).congr (fun j hj=>by
  have:j=0\/j=1\/j=2:=by omega
  rcases this with rfl|rfl|rfl<;>rfl)
theorem cur_i {w:World} {c:Nat} {s:Value} {i h:Int} (hv:VHas w c 83 3 (curV s i h)) (i':Int):VHas (w.setCell ⟨c,1,none⟩ (.int .i64 i')) c 83 3 (curV s i' h):=
 (hv.set 1 _).congr (fun j hj=>by
  have:j=0\/j=1\/j=2:=by omega
  rcases this with rfl|rfl|rfl<;>rfl)
theorem gr_drewN (w:World) (n:Nat) (row:Option Nat):w.grownBy (w.drewN n) row:=⟨rfl,rfl,rfl,Nat.le_refl _,fun _ _ _=>rfl⟩
set_option maxHeartbeats 2000000 in
theorem l1Byte_any (base c:Nat) (ao:Option Addr) (n cap:Nat) (w:World) (hC:CurAt w base c ao n cap):
  Calls Tryz.prog 66 #[.pointer (some ⟨c,0,none⟩)] w fun e w'=>∃ x:Int,e=.returned (.int .i64 x)/\0<=x/\x<=255/\CurAt w' base c ao n cap/\w.grownBy w' (some c):=by
 obtain⟨hge,hlen,hby,i,h,hi0,hi1,hv⟩:=hC;have c0:w.cell? ⟨c,0,none⟩=some (.slice ao n cap):=hv.cell (by omega);have c1:w.cell? ⟨c,1,none⟩=some (.int .i64 i):=hv.cell (j:=1) (by omega);have c2:w.cell? ⟨c,2,none⟩=some (.int .i64 h):=hv.cell (j:=2) (by omega);have z1:=hv.frozen 1;have z2:=hv.frozen 2;obtain⟨k,rfl⟩:∃ k:Nat,i=(k:Int):=⟨i.toNat,by omega⟩
 have hg1:∀ v,w.grownBy (w.setCell ⟨c,2,none⟩ v) (some c):=fun v=>gr_setCell w c 2 v
 by_cases hk:k<n
 rotate_left
 ·have hk':¬ (k:Int)<(n:Int):=by omega
  go_enter Tryz.func66,Tryz.ntmps66;go_wp2
  go_quiet (fail)
  go_wp2
  go_quiet (fail)
  go_wp2;go_ret;refine⟨_,rfl,(and255 _).1,(and255 _).2,⟨hge,hlen,?_,(k:Int),wrap64 (wrap64 (h*6364136223846793005)+1442695040888963407),hi0,hi1,?_⟩,?_⟩
  ·exact ((hby.grown (hg1 _) hge).grown (gr_drewN _ _ _) hge).grown (gr_drewN _ _ _) hge
  ·exact ((cur_h hv _).of_block rfl).of_block rfl
  ·exact ((hg1 _).trans (gr_drewN _ _ _)).trans (gr_drewN _ _ _)
 have hk':(k:Int)<(n:Int):=by omega
 obtain⟨b,o,v,hao,hbb,hcb,hv0,hv1⟩:=hby k hk;subst hao;have hne:b≠c:=by omega
 have hk0:(0:Int)<=(k:Int):=by omega
 go_enter Tryz.func66,Tryz.ntmps66;go_wp2
 go_quiet (fail)
 go_wp2
 go_quiet (fail)
 go_wp2
 go_quiet (fail)
 go_wp2;go_ret;refine⟨_,rfl,(and255 _).1,(and255 _).2,⟨hge,hlen,?_,((k+1:Nat):Int),wrap64 (wrap64 (h*6364136223846793005)+1442695040888963407),by omega,by omega,?_⟩,?_⟩
 ·exact ((hby.grown (hg1 _) hge).grown (gr_drewN _ _ _) hge).grown (gr_setCell _ c 1 _) hge
 ·exact cur_i ((cur_h hv _).of_block rfl) _
 ·exact ((hg1 _).trans (gr_drewN _ _ _)).trans (gr_setCell _ c 1 _)
theorem l1Below_any (base c:Nat) (ao:Option Addr) (n cap:Nat) (m:Int) (hm0:1<=m) (hm:m<=256) (w:World) (hC:CurAt w base c ao n cap):
  Calls Tryz.prog 27 #[.pointer (some ⟨c,0,none⟩),.int .i64 m] w fun e w'=>∃ x:Nat,e=.returned (.int .i64 (x:Int))/\(x:Int)<m/\CurAt w' base c ao n cap/\w.grownBy w' (some c):=by
 have hm1:¬ m<=0:=by omega
 have hm2:m≠0:=by omega
 go_enter Tryz.func27,Tryz.ntmps27
 go_wp2_with (go_at_call 66;refine (l1Byte_any base c ao n cap _ hC).mono ?_;rintro e w1 ⟨x,rfl,hx0,hx1,hC1,hg1⟩)
 go_ret;refine⟨(x%m).toNat,?_,?_,hC1,hg1⟩
 ·have:=Int.emod_nonneg x hm2
  exact (congrArg (fun z=>Ending.returned (.int .i64 z)) (by omega))
 ·have h1:=Int.emod_nonneg x hm2
  have h2:=Int.emod_lt_of_pos x (show 0<m by omega);omega
theorem l1Once_any (base c:Nat) (ao:Option Addr) (n cap:Nat) (m:Int) (hm0:1<=m) (hm:m<=256) (w:World) (hC:CurAt w base c ao n cap):
  Calls Tryz.prog 25 #[.pointer (some ⟨c,0,none⟩),.int .i64 m] w fun e w'=>∃ b:Bool,e=.returned (.bool b)/\CurAt w' base c ao n cap/\w.grownBy w' (some c):=by
 go_enter Tryz.func25,Tryz.ntmps25
 go_wp2_with (go_at_call 27;refine (l1Below_any base c ao n cap m hm0 hm _ hC).mono ?_;rintro e w1 ⟨x,rfl,hx,hC1,hg1⟩)
 go_ret;exact⟨_,rfl,hC1,hg1⟩
end
end Go.Proofs.YtbabakgjkloabaaGreatDoor
