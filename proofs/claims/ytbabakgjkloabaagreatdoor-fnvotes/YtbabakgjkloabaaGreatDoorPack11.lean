/-
  Helpers: Ms4, NewI, Ordq, Ms5, Nd7, Sn5, Nd5.
-/
import Derived.Test.YtbabakgjkloabaaGreatDoorPack10
set_option linter.unusedVariables false
set_option linter.unusedSimpArgs false
set_option maxRecDepth 100000
set_option maxHeartbeats 16000000
namespace Go.Proofs.YtbabakgjkloabaaGreatDoor
section
open Go Go.RowKit
attribute [local go_sem ↓] Go.wp_at_zero Go.wp_at_succ
theorem GOwn.lit(w:World)(t:TypeId)(size n:Nat)(cs:List Value)(hm:n<=maxLen)(h:cs.length=n*size):GOwn (w.alloc (.cells cs.toArray t)) w.heap.size t size (some ⟨w.heap.size,0,none⟩) n n (lf cs):=by
 have e:cV (lf cs) (n*size)=cs.toArray.toList:=by
  rw[<-h];refine List.ext_getElem? (fun j=>?_)
  by_cases hj:j<cs.length
  ·rw[dH hj]
   simp[lf,List.getD_eq_getElem?_getD,hj]
  ·rw[List.getElem?_eq_none (by rw[bR];omega),List.getElem?_eq_none (by simp;omega)]
 unfold GOwn;rw[e];exact World.ownsRow_lit w cs.toArray n nl hm (by simpa using h)
theorem jM(w:World)(m:Ms)(hm:m.ents=[]):NetV w.heap.size [m] (.slice (some ⟨w.heap.size,0,none⟩) 1 1) (w.alloc (.cells (bZ m none 0).toArray 29)):=
 ⟨some ⟨w.heap.size,0,none⟩,1,[⟨m,none,0⟩],rfl,rfl,by
  have e:jV [⟨m,none,0⟩]=bZ m none 0:=rfl
  exact⟨by rw[e];exact GOwn.lit w 29 9 1 (bZ m none 0) (by decide) (by rfl),fun q hq=>by
   simp at hq;subst hq
   show GOwn _ _ _ _ _ m.ents.length _ _
   rw[hm]
   exact GOwn.nil _ _ _ _ _⟩⟩
def fI(n:Nd)(m:Ms)(i:Int)(y:Bool):Ms:=⟨4,n.term,n.id,m.frm,i,0,[],0,y⟩
theorem lP(n:Nd)(s:NdS)(m:Ms)(eo:Option Addr)(ec:Nat)(i:Int)(y:Bool)(w:World):Calls Tryz.prog 75 #[aX n s,eS m eo ec,.int .i64 i,.bool y] w fun e w'=>∃ v,e=.returned v/\NetV w.heap.size [fI n m i y] v w'/\RB w w':=by
 have hb:=rt _ _ _ (ra w (.cells (aJ n s).toArray 27)) (ra _ (.cells (bZ m eo ec).toArray 29));have hv:=jM ((w.alloc (.cells (aJ n s).toArray 27)).alloc (.cells (bZ m eo ec).toArray 29)) (fI n m i y) rfl;rw[World.size_alloc,World.size_alloc]at hv;go_enter Tryz.func75,Tryz.ntmps75;go_wp2;go_ret;obtain⟨ao,cap,l,e1,e2,h⟩:=hv;exact⟨_,rfl,⟨ao,cap,l,e1,e2,h.o.from (by omega),fun q hq=>(h.e q hq).from (by omega)⟩,rt _ _ _ hb (ra _ _)⟩
end
section
open Go.RowKit
attribute [local go_sem ↓] Go.wp_at_zero Go.wp_at_succ
def zZ(n:Nat)(T:Nat->Int)(i t:Int):Bool:=decide (dR n T<t)||(decide (t=dR n T)&&decide ((n:Int)<=i))
theorem uJ(ao:Option Addr)(n cap:Nat)(T:Nat->Int)(X:Nat->ByteArray)(i t:Int)(hn:n<=9223372036854775807)(w:World)(hr:NRow w ao n T X):
  Calls Tryz.prog 72 #[.slice ao n cap,.int .i64 i,.int .i64 t] w fun e w'=>e=.returned (.bool (zZ n T i t))/\w'=w:=by
 unfold zZ;generalize hL:dR n T=l;have H:=fun W h=>fH ao n cap T X hn W h
 rw[hL]at H
 by_cases h1:l<t
 ·go_enter Tryz.func72,Tryz.ntmps72
  go_wp2_with (go_at_call 86;refine (H _ hr).mono ?_;rintro e w1 ⟨rfl,rfl⟩)
  go_ret;exact⟨by simp[h1],rfl⟩
 by_cases h2:t=l
 ·subst h2
  go_enter Tryz.func72,Tryz.ntmps72
  go_wp2_with (go_at_call 86;refine (H _ hr).mono ?_;rintro e w1 ⟨rfl,rfl⟩)
  go_ret;exact⟨by simp,rfl⟩
 ·go_enter Tryz.func72,Tryz.ntmps72
  go_wp2_with (go_at_call 86;refine (H _ hr).mono ?_;rintro e w1 ⟨rfl,rfl⟩)
  go_ret;exact⟨by simp[h1,h2],rfl⟩
end
section
open Go
section
variable {P:Program} {ops:Array Oper}
theorem EvOk.kept{a0:Act}{o:Oper}{v:Nat->Value}{ev:Operand->Value}{Pr:Nat->Value->World->Prop}{w:World}{ks:List Nat}(E:EvOk ops a0 o v ev)(pr:∀ j,j∈ks->aK o j=true->Pr j (v j) w)(j d:Nat)
  (h1:(ops[j]?).bind (·.dst)=some d:=by rfl) (h2:aK o j=true:=by kernel_rfl) (h3:Nat.blt d a0.tmps.size=true:=by kernel_rfl) (h4:ks.contains j=true:=by kernel_rfl):Pr j (ev (.tmp d)) w:=by
 rw[E.at_ j d h1 h2 (nb h3)];exact pr j (by simpa using h4) h2
theorem LateOk.get{a0:Act}{w0:World}{Post:World->Prop}{Pr:Nat->Value->World->Prop}{ks:List Nat}{i:Nat}{o:Oper}(u:Value)(hp:∀ w,Pr i u w)
  (h:∀ (ev:Operand->Value) (w:World) (v:Nat->Value),(RB w0 w\/Post w)->EvOk ops a0 o v ev->(∀ j,j∈ks->aK o j=true->Pr j (v j) w)->(execOp ev o).run P w=.ok (.value u) w):LateOk P ops a0 w0 Post Pr ks i o:=
 fun ev w v hR E pr=>⟨u,w,h ev w v hR E pr,rr _,hp w⟩
def lK(P:Program)(ops:Array Oper)(a0:Act)(w0:World)(Post:World->Prop)(Pr:Nat->Value->World->Prop)(ks:List Nat)(kx:Nat)(early:List Nat):Nat->List Oper->Prop
 | _,[]=>True
 | i,o :: r=>((i==kx||early.contains i)=true\/LateOk P ops a0 w0 Post Pr ks i o)/\lK P ops a0 w0 Post Pr ks kx early (i+1) r
theorem rV{a0:Act}{w0:World}{Post:World->Prop}{Pr:Nat->Value->World->Prop}{ks:List Nat}{kx:Nat}{early:List Nat}:∀ (l:List Oper) (k:Nat),lK P ops a0 w0 Post Pr ks kx early k l->∀ i o,l[i]?=some o->k+i≠kx->k+i∉early->LateOk P ops a0 w0 Post Pr ks (k+i) o
 | [],_,_,i,o,h,_,_=>by simp at h
 | p :: r,k,h,0,o,ho,h1,h2=>by
  obtain⟨h,_⟩:=h;obtain rfl:p=o:=by simpa using ho
  rcases h with h|h
  ·simp only[Bool.or_eq_true,beq_iff_eq,List.contains_iff_mem]at h
   rcases h with h|h
   ·exact absurd h h1
   ·exact absurd h h2
  ·exact h
 | p :: r,k,h,i+1,o,ho,h1,h2=>by
  have e:k+(i+1)=k+1+i:=by omega
  rw[e]at h1 h2 ⊢;exact rV r (k+1) h.2 i o (by simpa using ho) h1 h2
theorem kR{a0:Act}{w0:World}{Post:World->Prop}{Pr:Nat->Value->World->Prop}{ks:List Nat}{kx:Nat}{early:List Nat}(h:lK P ops a0 w0 Post Pr ks kx early 0 ops.toList):∀ i,i<ops.size->i≠kx->i∉early->∀ o,ops[i]?=some o->LateOk P ops a0 w0 Post Pr ks i o:=fun i _ h1 h2 o ho=>by
 have:=rV ops.toList 0 h i o (by simpa using ho) (by simpa using h1) (by simpa using h2);simpa using this
theorem aM{a0:Act}{w0:World}{Post:World->Prop}{Pr:Nat->Value->World->Prop}{ks:List Nat}{kx:Nat}{early:List Nat}{i:Nat}{o:Oper}{r:List Oper}(h:LateOk P ops a0 w0 Post Pr ks i o)(hr:lK P ops a0 w0 Post Pr ks kx early (i+1) r):lK P ops a0 w0 Post Pr ks kx early i (o :: r):=⟨.inr h,hr⟩
theorem aD{a0:Act}{w0:World}{Post:World->Prop}{Pr:Nat->Value->World->Prop}{ks:List Nat}{kx:Nat}{early:List Nat}{i:Nat}{o:Oper}{r:List Oper}(hs:(i==kx||early.contains i)=true)(hr:lK P ops a0 w0 Post Pr ks kx early (i+1) r):lK P ops a0 w0 Post Pr ks kx early i (o :: r):=⟨.inl hs,hr⟩
end
end
section
open Go Go.RowKit
attribute [local go_sem ↓] Go.wp_at_zero Go.wp_at_succ
def tV(n:Nd)(m:Ms):Bool:=(m.term==n.term)&&((n.vote == -1||n.vote==m.frm)&&zZ n.log.length (cL n.log) m.index m.lterm)
def rK(n:Nd)(m:Ms):Nd:=if tV n m then ⟨n.id,n.peers,n.term,m.frm,n.log,n.role,n.commit,n.votes,n.next,n.mat⟩ else n
def eI(n:Nd)(to:Int)(y:Bool):Ms:=⟨2,n.term,n.id,to,0,0,[],0,y⟩
theorem NetV.rb{b:Nat}{ms:List Ms}(v:Value)(w w':World)(h:NetV b ms v w)(hR:RB w w'):NetV b ms v w':=by
 obtain⟨ao,cap,l,e1,e2,h⟩:=h;exact⟨ao,cap,l,e1,e2,h.next hR⟩
theorem NetV.from{b b':Nat}{ms:List Ms}{v:Value}{w:World}(h:NetV b ms v w)(hb:b'<=b):NetV b' ms v w:=by
 obtain⟨ao,cap,l,e1,e2,h⟩:=h;exact⟨ao,cap,l,e1,e2,h.o.from hb,fun q hq=>(h.e q hq).from hb⟩
theorem NetV.gr{b:Nat}{ms:List Ms}{v:Value}{w w':World}{x:Nat}(h:NetV b ms v w)(hg:w.grownBy w' (some x))(hx:aG w x 27):NetV b ms v w':=by
 obtain⟨ao,cap,l,e1,e2,h⟩:=h;exact⟨ao,cap,l,e1,e2,h.o.gr hg (fun y e=>by cases e;exact hx) (by decide),fun q hq=>(h.e q hq).gr hg (fun y e=>by cases e;exact hx) (by decide)⟩
theorem G4(n:Nd)(s:NdS)(hz:NdZ n s)(m:Ms)(eo:Option Addr)(ec:Nat)(w:World)(hM:NdM w n s):Calls Tryz.prog 33 #[aX n s,eS m eo ec] w fun e w'=>∃ u,e=.returned (.tuple #[aX (rK n m) s,u])/\NetV w.heap.size [eI (rK n m) m.frm (tV n m)] u w'/\RB w w':=by
 have hb:=rt _ _ _ (rt _ _ _ (ra w (.cells (aJ n s).toArray 27)) (ra _ (.cells (bZ m eo ec).toArray 29))) (ra _ (.cells (aJ aU aP).toArray 27));have vA:NdB _ w.heap.size n s:=((aH w n s).next (ra _ (.cells (bZ m eo ec).toArray 29))).next (ra _ (.cells (aJ aU aP).toArray 27));have vM:MsB _ (w.alloc (.cells (aJ n s).toArray 27)).heap.size m eo ec:=(bJ (w.alloc (.cells (aJ n s).toArray 27)) m eo ec).next (ra _ (.cells (aJ aU aP).toArray 27));have vR:=aH ((w.alloc (.cells (aJ n s).toArray 27)).alloc (.cells (bZ m eo ec).toArray 29)) aU aP;rw[World.size_alloc]at vM;rw[World.size_alloc,World.size_alloc]at vR;replace hM:=hM.next hb;go_enter Tryz.func33,Tryz.ntmps33;refine fQ fun K0 hK0=>?_
 go_wp2;refine hK0 _ _ ?_;clear hK0;refine fQ fun K1 hK1=>?_
 generalize (((w.alloc _).alloc _).alloc _)=W at hb vA vM vR hM ⊢;obtain⟨b11,qb11⟩:∃ b:Bool,b=((m.term==n.term)):=⟨_,rfl⟩
 obtain⟨c5t,hc5t⟩:∃ c:Bool,c=(true&&((b11)==true)):=⟨_,rfl⟩
 obtain⟨b15,qb15⟩:∃ b:Bool,b=((n.vote==(-1))):=⟨_,rfl⟩
 obtain⟨c9f,hc9f⟩:∃ c:Bool,c=(c5t&&((b15)==false)):=⟨_,rfl⟩
 obtain⟨b21,qb21⟩:∃ b:Bool,b=((n.vote==m.frm)):=⟨_,rfl⟩
 obtain⟨b22,qb22⟩:∃ b:Bool,b=((b15||b21)):=⟨_,rfl⟩
 obtain⟨b23,qb23⟩:∃ b:Bool,b=((b11&&b22)):=⟨_,rfl⟩
 obtain⟨c17t,hc17t⟩:∃ c:Bool,c=(true&&((b23)==true)):=⟨_,rfl⟩
 obtain⟨b31,qb31⟩:∃ b:Bool,b=(zZ n.log.length (cL n.log) m.index m.lterm):=⟨_,rfl⟩
 obtain⟨b32,qb32⟩:∃ b:Bool,b=((b23&&b31)):=⟨_,rfl⟩
 refine hU (by kernel_rfl) RB rr rt [isV (.pointer (some ⟨w.heap.size+1,1,none⟩)),isV (.int .i64 m.term),isV (.pointer (some ⟨w.heap.size,2,none⟩)),isV (.int .i64 n.term),isV (.bool b11),isV (.bool b11),isV (gv c5t (.pointer (some ⟨w.heap.size,3,none⟩))),isV (gv c5t (.int .i64 n.vote)),isV (gv c5t (.bool b15)),isV (gv c5t (.bool b15)),isV (gv c9f (.pointer (some ⟨w.heap.size,3,none⟩))),isV (gv c9f (.int .i64 n.vote)),isV (gv c9f (.pointer (some ⟨w.heap.size+1,2,none⟩))),isV (gv c9f (.int .i64 m.frm)),isV (gv c9f (.bool b21)),isV (gv c5t (.bool b22)),isV (.bool b23),isV (.bool b23),isV (gv c17t (.pointer (some ⟨w.heap.size,4,none⟩))),isV (gv c17t (.slice s.lo n.log.length s.lc)),isV (gv c17t (.pointer (some ⟨w.heap.size+1,4,none⟩))),isV (gv c17t (.int .i64 m.index)),isV (gv c17t (.pointer (some ⟨w.heap.size+1,5,none⟩))),isV (gv c17t (.int .i64 m.lterm)),isV (gv c17t (.bool b31)),isV (.bool b32),isV (.bool b32)] ⟨iR,iR,iR,iR,iR,iR,iR,iR,iR,iR,iR,iR,iR,iR,iR,iR,iR,iR,iR,iR,iR,iR,iR,iR,iR,iR,iR,trivial⟩ rfl ?_ ?_
 ·refine⟨?_,?_,?_,?_,?_,?_,?_,?_,?_,?_,?_,?_,?_,?_,?_,?_,?_,?_,?_,?_,?_,?_,?_,?_,?_,?_,?_,trivial⟩
  ·exact ow 3
  ·exact oc 0 7 fun _ hR=>(vM.next hR).cell (j:=1) (by omega)
  ·exact ow 2
  ·exact oc 2 9 fun _ hR=>(vA.next hR).cell (j:=2) (by omega)
  ·exact zS 1 8 3 10 qb11
  ·exact o1 4 11
  ·exact gw 5 12 hc5t 2 nt
  ·exact gc 5 12 hc5t 6 13 fun _ hR=>(vA.next hR).cell (j:=3) (by omega)
  ·exact g1 5 12 hc5t 7 14 qb15
  ·exact g1 5 12 hc5t 8 15 nt
  ·exact gw 9 16 hc9f 2 nt
  ·exact gc 9 16 hc9f 10 17 fun _ hR=>(vA.next hR).cell (j:=3) (by omega)
  ·exact gw 9 16 hc9f 3 nt
  ·exact gc 9 16 hc9f 12 19 fun _ hR=>(vM.next hR).cell (j:=2) (by omega)
  ·exact g2 9 16 hc9f 11 18 13 20 qb21
  ·exact OpOk.gd rr 5 12 true true (b11) (fun _ _ h=>h) c5t hc5t _ (fun _=>rfl) fun ev w' v hR E pr hC=>by
    have e1:=E.eq pr 9 16;have e2:=E.eq pr 14 21;rcases bq (b15) with hs|hs<;>simp[go_sem,gv,hC,hc5t,E.con,qb22,gv,hc9f,e1,e2,hs]
  ·exact oq rfl fun ev w' v hR E pr=>by
    have e1:=E.eq pr 5 12;have e2:=E.eq pr 15 22;rcases bq (b11) with hs|hs<;>simp[go_sem,E.con,qb23,gv,hc5t,e1,e2,hs]
  ·exact o1 16 23
  ·exact gw 17 24 hc17t 2 nt
  ·exact gc 17 24 hc17t 18 25 fun _ hR=>(vA.next hR).cell (j:=4) (by omega)
  ·exact gw 17 24 hc17t 3 nt
  ·exact gc 17 24 hc17t 20 27 fun _ hR=>(vM.next hR).cell (j:=4) (by omega)
  ·exact gw 17 24 hc17t 3 nt
  ·exact gc 17 24 hc17t 22 29 fun _ hR=>(vM.next hR).cell (j:=5) (by omega)
  ·exact OpOk.gdCall 17 24 true true (b23) (fun _ _ h=>h) c17t hc17t _ (fun _=>rfl) fun ev w' v hR E pr hC=>by
    have e1:=E.eq pr 19 26;have e2:=E.eq pr 21 28;have e3:=E.eq pr 23 30;rw[hC]at e1;rw[hC]at e2;rw[hC]at e3;refine⟨72,#[.slice s.lo n.log.length s.lc,.int .i64 m.index,.int .i64 m.lterm],by simp[go_sem,gv,e1,e2,e3,E.fn],?_⟩;rw[qb31];exact ((uJ s.lo n.log.length s.lc (cL n.log) (cS n.log) m.index m.lterm (Nat.le_trans hz.l (by omega)) _ (hM.next hR).l.n).mono fun e w2 h=>⟨h.1,by rw[h.2];exact rr _⟩)
  ·exact oq rfl fun ev w' v hR E pr=>by
    have e1:=E.eq pr 17 24;have e2:=E.eq pr 24 31;rcases bq (b23) with hs|hs<;>simp[go_sem,E.con,qb32,gv,hc17t,e1,e2,hs]
  ·exact o1 25 32
 ·intro v w' hR hp
  obtain⟨-,-,-,-,-,-,-,-,-,-,-,-,-,-,-,-,-,-,-,-,-,-,-,-,-,-,p26,-⟩:=hp;replace p26:v 26=.bool b32:=p26;simp only[bF,Nat.zero_add,Nat.reduceAdd,p26,Act.put,sY,sZ,ss];refine hK1 _ _ ?_;clear hK1
  have e:b32=tV n m:=by
   simp only[qb11,qb15,qb21,qb22,qb23,qb31,qb32,tV];rw[Bool.and_assoc]
  rw[e];clear e p26;replace hb:=rt _ _ _ hb hR;replace vA:=vn vA hR;replace vM:=vn vM hR;replace vR:=vn vR hR;clear hM hR;have cm:=vM.cell (j:=2) (by omega);simp[lf]at cm;obtain⟨n1,hn1⟩:∃ n1,n1=rK n m:=⟨_,rfl⟩
  rcases bq (tV n m) with hy|hy
  ·have hn2:n1=⟨n.id,n.peers,n.term,m.frm,n.log,n.role,n.commit,n.votes,n.next,n.mat⟩:=by rw[hn1];simp[rK,hy]
   rw[hy]
   go_wp2_with (first|(with_reducible refine wN 2 (.tmp 36) (.tmp 35) w.heap.size 3 (.int .i64 m.frm) ⟨n.id,n.peers,n.term,m.frm,n.log,n.role,n.commit,n.votes,n.next,n.mat⟩ s vA ?_;intro W0 vA0 hg)|fail)
   rw[<-hn2]at vA0;replace vM:MsB W0 (w.heap.size+1) m eo ec:=VHas.grown vM hg (fun e=>by have:=oI e;omega);replace vR:NdB W0 (w.heap.size+1+1) aU aP:=VHas.grown vR hg (fun e=>by have:=oI e;omega);replace hb:=aV hb hg nl;clear vA hg cm hn2;have vA:NdB W0 w.heap.size n1 s:=vA0;clear vA0;have hd:RB W0 W0.drew:=(Below.refl _ _).drew;have hsz:=hb.size;replace hb:=rt _ _ _ hb hd;replace vA:NdB W0.drew w.heap.size n1 s:=vn vA hd;replace vM:MsB W0.drew (w.heap.size+1) m eo ec:=vn vM hd;replace vR:NdB W0.drew (w.heap.size+1+1) aU aP:=vn vR hd
   have hin:∀ W5,(RB W0.drew W5\/(NdB W5 w.heap.size n1 s/\MsB W5 (w.heap.size+1) m eo ec/\NdB W5 (w.heap.size+1+1) n1 s/\RB w W5))->NdB W5 w.heap.size n1 s/\MsB W5 (w.heap.size+1) m eo ec/\RB w W5:=fun W5 h=>by
    rcases h with h|h
    ·exact⟨vn vA h,vn vM h,rt _ _ _ hb h⟩
    ·exact⟨h.1,h.2.1,h.2.2.2⟩
   refine cY (by kernel_rfl) (by kernel_rfl) 10 [0] [1,2,3,4,5,6,7,8,9,11] (by kernel_rfl) (by kernel_rfl)
    (fun u v=>u.grownBy v (some (w.heap.size+1+1))/\aG u (w.heap.size+1+1) 27)
    (fun W5=>NdB W5 w.heap.size n1 s/\MsB W5 (w.heap.size+1) m eo ec/\NdB W5 (w.heap.size+1+1) n1 s/\RB w W5)
    (fun a b h hR=>⟨vn h.1 hR,vn h.2.1 hR,vn h.2.2.1 hR,rt _ _ _ h.2.2.2 hR⟩)
    [isV (aX n1 s),isV (.pointer (some ⟨w.heap.size,2,none⟩)),isV (.int .i64 n1.term),isV (.pointer (some ⟨w.heap.size,0,none⟩)),isV (.int .i64 n1.id),isV (.pointer (some ⟨w.heap.size+1,2,none⟩)),isV (.int .i64 m.frm),isV (.bool true),isV (eS (eI n1 m.frm true) none 0),NetV w.heap.size [eI n1 m.frm true],fun _ _=>True,NetV w.heap.size [eI n1 m.frm true]]
    ⟨iR,iR,iR,iR,iR,iR,iR,iR,iR,NetV.rb,fun _ _ _ h _=>h,NetV.rb,trivial⟩ ?_ ?_ (kR ?_) _ rfl rfl ?_ ?_
   ·intro i hi v a b h hx
    simp only[List.mem_cons,List.not_mem_nil,or_false]at hi;rcases hi with rfl|rfl|rfl|rfl|rfl|rfl|rfl|rfl|rfl|rfl
    iterate 8 exact h
    ·exact NetV.gr h hx.1 hx.2
    ·exact NetV.gr h hx.1 hx.2
   ·intro i hi o ho
    simp only[List.mem_cons,List.not_mem_nil,or_false]at hi;subst hi;obtain rfl:=oI ho
    exact oq rfl fun ev w5 v hR E pr=>by
     have e1:=E.was 2 _;exact bD rfl e1 (vn vA hR)
   ·refine aD rfl (aM ?_ (aM ?_ (aM ?_ (aM ?_ (aM ?_ (aM ?_ (aM ?_ (aM ?_ (aM ?_ (aD rfl (aM ?_ trivial)))))))))))
    ·exact LateOk.get _ (fun _=>rfl) fun ev w5 v hR E pr=>by
      have e1:=E.was 2 _;simp[go_sem,e1]
    ·exact LateOk.get _ (fun _=>rfl) fun ev w5 v hR E pr=>by
      have e1:ev (.tmp 38)=.pointer (some ⟨w.heap.size,2,none⟩):=E.kept pr 1 38;have cc:=(hin _ hR).1.cell (j:=2) (by omega);simp[lf]at cc;simp[go_sem,cc,e1]
    ·exact LateOk.get _ (fun _=>rfl) fun ev w5 v hR E pr=>by
      have e1:=E.was 2 _;simp[go_sem,e1]
    ·exact LateOk.get _ (fun _=>rfl) fun ev w5 v hR E pr=>by
      have e1:ev (.tmp 40)=.pointer (some ⟨w.heap.size,0,none⟩):=E.kept pr 3 40;have cc:=(hin _ hR).1.cell (j:=0) (by omega);simp[lf]at cc;simp[go_sem,cc,e1]
    ·exact LateOk.get _ (fun _=>rfl) fun ev w5 v hR E pr=>by
      have e1:=E.was 3 _;simp[go_sem,e1]
    ·exact LateOk.get _ (fun _=>rfl) fun ev w5 v hR E pr=>by
      have e1:ev (.tmp 42)=.pointer (some ⟨w.heap.size+1,2,none⟩):=E.kept pr 5 42;have cc:=(hin _ hR).2.1.cell (j:=2) (by omega);simp[lf]at cc;simp[go_sem,cc,e1]
    ·exact LateOk.get _ (fun _=>rfl) fun ev w5 v hR E pr=>by
      have e1:=E.was 6 _;simp[go_sem,e1]
    ·exact LateOk.get _ (fun _=>rfl) fun ev w5 v hR E pr=>by
      have e1:ev (.tmp 39)=.int .i64 n1.term:=E.kept pr 2 39;have e2:ev (.tmp 41)=.int .i64 n1.id:=E.kept pr 4 41;have e3:ev (.tmp 43)=.int .i64 m.frm:=E.kept pr 6 43;have e4:ev (.tmp 44)=.bool true:=E.kept pr 7 44;simp[go_sem,E.con,e1,e2,e3,e4,eI]
    ·intro ev w5 v hR E pr
     have e1:ev (.tmp 45)=eS (eI n1 m.frm true) none 0:=E.kept pr 8 45;exact⟨.slice (some ⟨w5.heap.size,0,none⟩) 1 1,w5.alloc (.cells (bZ (eI n1 m.frm true) none 0).toArray 29),by simp[go_sem,e1],ra _ _,NetV.from (jM w5 _ rfl) (hin _ hR).2.2.size⟩
    ·intro ev w5 v hR E pr
     exact⟨ev (.tmp 46),w5,by simp[go_sem],rr _,E.kept pr 9 46⟩
   ·intro ev w5 v hR E hp
    have E1:ev (.tmp 37)=aX n1 s:=E.get hp 0 37;have E2:ev (.tmp 4)=.pointer (some ⟨w.heap.size+1+1,0,none⟩):=E.was 4 _;have vR':=vn vR hR;have hg:w5.grownBy (setL w5 (w.heap.size+1+1) 0 (aJ n1 s)) (some (w.heap.size+1+1)):=bP _ _ 0 _;exact⟨_,bU (aJ n1 s) rfl E2 E1 vR' (by kernel_rfl) (cD (by kernel_rfl)),⟨hg,vR'.typed⟩,VHas.grown (vn vA hR) hg (fun e=>by have:=oI e;omega),VHas.grown (vn vM hR) hg (fun e=>by have:=oI e;omega),bE _ vR',aV (rt _ _ _ hb hR) hg (by omega)⟩
   ·rintro v8 w8 ⟨_,_,hv9,hb9⟩ hk
    have k11:NetV w.heap.size [eI n1 m.frm true] (v8 11) w8:=hk 11 (by decide) (nb (by kernel_rfl)) (by decide);simp only[bF,Nat.zero_add,Nat.reduceAdd,Act.put,sY,sZ,ss];obtain⟨q0,q1,q2,q3,q4,q5,q6,q7,q8,q9⟩:=cN hv9;go_wp2;exact bodyPost_ret (v:=.tuple #[aX n1 s,v8 11]) (by simp[results,Tryz.results33,go_sem,q0,q1,q2,q3,q4,q5,q6,q7,q8,q9]) rfl ⟨v8 11,by rw[hn1],by rw[<-hn1];exact k11,hb9⟩
  ·have hn2:n1=n:=by rw[hn1];simp[rK,hy]
   rw[hy]
   go_wp2_with fail
   rw[<-hn2]at vA;clear cm;have hd:RB w' w'.drew:=(Below.refl _ _).drew;have hsz:=hb.size;replace hb:=rt _ _ _ hb hd;replace vA:NdB w'.drew w.heap.size n1 s:=vn vA hd;replace vM:MsB w'.drew (w.heap.size+1) m eo ec:=vn vM hd;replace vR:NdB w'.drew (w.heap.size+1+1) aU aP:=vn vR hd
   have hin:∀ W5,(RB w'.drew W5\/(NdB W5 w.heap.size n1 s/\MsB W5 (w.heap.size+1) m eo ec/\NdB W5 (w.heap.size+1+1) n1 s/\RB w W5))->NdB W5 w.heap.size n1 s/\MsB W5 (w.heap.size+1) m eo ec/\RB w W5:=fun W5 h=>by
    rcases h with h|h
    ·exact⟨vn vA h,vn vM h,rt _ _ _ hb h⟩
    ·exact⟨h.1,h.2.1,h.2.2.2⟩
   refine cY (by kernel_rfl) (by kernel_rfl) 10 [0] [1,2,3,4,5,6,7,8,9,11] (by kernel_rfl) (by kernel_rfl)
    (fun u v=>u.grownBy v (some (w.heap.size+1+1))/\aG u (w.heap.size+1+1) 27)
    (fun W5=>NdB W5 w.heap.size n1 s/\MsB W5 (w.heap.size+1) m eo ec/\NdB W5 (w.heap.size+1+1) n1 s/\RB w W5)
    (fun a b h hR=>⟨vn h.1 hR,vn h.2.1 hR,vn h.2.2.1 hR,rt _ _ _ h.2.2.2 hR⟩)
    [isV (aX n1 s),isV (.pointer (some ⟨w.heap.size,2,none⟩)),isV (.int .i64 n1.term),isV (.pointer (some ⟨w.heap.size,0,none⟩)),isV (.int .i64 n1.id),isV (.pointer (some ⟨w.heap.size+1,2,none⟩)),isV (.int .i64 m.frm),isV (.bool false),isV (eS (eI n1 m.frm false) none 0),NetV w.heap.size [eI n1 m.frm false],fun _ _=>True,NetV w.heap.size [eI n1 m.frm false]]
    ⟨iR,iR,iR,iR,iR,iR,iR,iR,iR,NetV.rb,fun _ _ _ h _=>h,NetV.rb,trivial⟩ ?_ ?_ (kR ?_) _ rfl rfl ?_ ?_
   ·intro i hi v a b h hx
    simp only[List.mem_cons,List.not_mem_nil,or_false]at hi;rcases hi with rfl|rfl|rfl|rfl|rfl|rfl|rfl|rfl|rfl|rfl
    iterate 8 exact h
    ·exact NetV.gr h hx.1 hx.2
    ·exact NetV.gr h hx.1 hx.2
   ·intro i hi o ho
    simp only[List.mem_cons,List.not_mem_nil,or_false]at hi;subst hi;obtain rfl:=oI ho
    exact oq rfl fun ev w5 v hR E pr=>by
     have e1:=E.was 2 _;exact bD rfl e1 (vn vA hR)
   ·refine aD rfl (aM ?_ (aM ?_ (aM ?_ (aM ?_ (aM ?_ (aM ?_ (aM ?_ (aM ?_ (aM ?_ (aD rfl (aM ?_ trivial)))))))))))
    ·exact LateOk.get _ (fun _=>rfl) fun ev w5 v hR E pr=>by
      have e1:=E.was 2 _;simp[go_sem,e1]
    ·exact LateOk.get _ (fun _=>rfl) fun ev w5 v hR E pr=>by
      have e1:ev (.tmp 38)=.pointer (some ⟨w.heap.size,2,none⟩):=E.kept pr 1 38;have cc:=(hin _ hR).1.cell (j:=2) (by omega);simp[lf]at cc;simp[go_sem,cc,e1]
    ·exact LateOk.get _ (fun _=>rfl) fun ev w5 v hR E pr=>by
      have e1:=E.was 2 _;simp[go_sem,e1]
    ·exact LateOk.get _ (fun _=>rfl) fun ev w5 v hR E pr=>by
      have e1:ev (.tmp 40)=.pointer (some ⟨w.heap.size,0,none⟩):=E.kept pr 3 40;have cc:=(hin _ hR).1.cell (j:=0) (by omega);simp[lf]at cc;simp[go_sem,cc,e1]
    ·exact LateOk.get _ (fun _=>rfl) fun ev w5 v hR E pr=>by
      have e1:=E.was 3 _;simp[go_sem,e1]
    ·exact LateOk.get _ (fun _=>rfl) fun ev w5 v hR E pr=>by
      have e1:ev (.tmp 42)=.pointer (some ⟨w.heap.size+1,2,none⟩):=E.kept pr 5 42;have cc:=(hin _ hR).2.1.cell (j:=2) (by omega);simp[lf]at cc;simp[go_sem,cc,e1]
    ·exact LateOk.get _ (fun _=>rfl) fun ev w5 v hR E pr=>by
      have e1:=E.was 6 _;simp[go_sem,e1]
    ·exact LateOk.get _ (fun _=>rfl) fun ev w5 v hR E pr=>by
      have e1:ev (.tmp 39)=.int .i64 n1.term:=E.kept pr 2 39;have e2:ev (.tmp 41)=.int .i64 n1.id:=E.kept pr 4 41;have e3:ev (.tmp 43)=.int .i64 m.frm:=E.kept pr 6 43;have e4:ev (.tmp 44)=.bool false:=E.kept pr 7 44;simp[go_sem,E.con,e1,e2,e3,e4,eI]
    ·intro ev w5 v hR E pr
     have e1:ev (.tmp 45)=eS (eI n1 m.frm false) none 0:=E.kept pr 8 45;exact⟨.slice (some ⟨w5.heap.size,0,none⟩) 1 1,w5.alloc (.cells (bZ (eI n1 m.frm false) none 0).toArray 29),by simp[go_sem,e1],ra _ _,NetV.from (jM w5 _ rfl) (hin _ hR).2.2.size⟩
    ·intro ev w5 v hR E pr
     exact⟨ev (.tmp 46),w5,by simp[go_sem],rr _,E.kept pr 9 46⟩
   ·intro ev w5 v hR E hp
    have E1:ev (.tmp 37)=aX n1 s:=E.get hp 0 37;have E2:ev (.tmp 4)=.pointer (some ⟨w.heap.size+1+1,0,none⟩):=E.was 4 _;have vR':=vn vR hR;have hg:w5.grownBy (setL w5 (w.heap.size+1+1) 0 (aJ n1 s)) (some (w.heap.size+1+1)):=bP _ _ 0 _;exact⟨_,bU (aJ n1 s) rfl E2 E1 vR' (by kernel_rfl) (cD (by kernel_rfl)),⟨hg,vR'.typed⟩,VHas.grown (vn vA hR) hg (fun e=>by have:=oI e;omega),VHas.grown (vn vM hR) hg (fun e=>by have:=oI e;omega),bE _ vR',aV (rt _ _ _ hb hR) hg (by omega)⟩
   ·rintro v8 w8 ⟨_,_,hv9,hb9⟩ hk
    have k11:NetV w.heap.size [eI n1 m.frm false] (v8 11) w8:=hk 11 (by decide) (nb (by kernel_rfl)) (by decide);simp only[bF,Nat.zero_add,Nat.reduceAdd,Act.put,sY,sZ,ss];obtain⟨q0,q1,q2,q3,q4,q5,q6,q7,q8,q9⟩:=cN hv9;go_wp2;exact bodyPost_ret (v:=.tuple #[aX n1 s,v8 11]) (by simp[results,Tryz.results33,go_sem,q0,q1,q2,q3,q4,q5,q6,q7,q8,q9]) rfl ⟨v8 11,by rw[hn1],by rw[<-hn1];exact k11,hb9⟩
def iZ(n:Nd)(k:Nat):Nat:=(aT n.next k-1).toNat
def dU(n:Nd):List Ms:=eE n.id (fun k=>eK n (iZ n k) k) n.peers.toNat
theorem dW{n:Nd}(h:bY n=true):1<=n.peers/\n.peers<=5/\0<=n.id/\n.id<n.peers:=by
 simp[bY,dS]at h;omega
theorem qR{n:Nd}(h:bY n=true)(hr:n.role=3):(n.next.length:Int)=n.peers/\(n.mat.length:Int)=n.peers/\∀ i,i<n.next.length->1<=aT n.next i/\aT n.next i<=n.log.length+1/\0<=aT n.mat i/\aT n.mat i<=n.log.length:=by
 simp only[bY,cB,hr,fK,cA,if_true,Bool.and_eq_true,decide_eq_true_eq,List.all_eq_true,List.mem_range]at h;obtain⟨_,_,_,_,_,_,_,⟨h1,h2⟩,h3⟩:=h;exact⟨h1,h2,h3⟩
theorem tI(n:Nd)(s:NdS)(hz:NdZ n s)(hp:0<=n.peers/\n.peers<=5)(hl:(n.next.length:Int)=n.peers)(hx:∀ i,i<n.next.length->1<=aT n.next i/\aT n.next i<=n.log.length+1)(w:World)(hM:NdM w n s):Calls Tryz.prog 51 #[aX n s,.func (.func 55) #[] #[]] w fun e w'=>∃ v,e=.returned v/\NetV w.heap.size (dU n) v w'/\RB w w':=
 xG n s 55 (fun k=>eK n (iZ n k) k) n.peers.toNat (by omega) (by omega) w (fun _ _=>by kernel_rfl) (fun W k hk hR=>by
  have hk2:k<n.next.length:=by omega
  have hx2:=hx k hk2;refine (nS n s hz k (iZ n k) hk2 (by unfold iZ;omega) (by unfold iZ;omega) W (hM.next hR)).mono ?_;rintro e w' ⟨a,c,rfl,ho,hb⟩
  exact⟨a,c,rfl,ho.from hR.size,hb⟩)
theorem P1{o:Oper}{ev:Operand->Value}{x y z:Operand}{ao:Option Addr}{l:List En}{c i j:Nat}{w:World}(ho:o.op=.slice 24 x (some y) (some z) none)(hx:ev x=.slice ao l.length c)(hy:ev y=.int .i64 (i:Int))(hz:ev z=.int .i64 (j:Int))(hij:i<=j)(hi:j<=l.length)(hn:l.length<=c)(hr:LRow w 47 ao (dZ l)):
  ∃ ao' c',(execOp ev o).run Tryz.prog w=.ok (.value (.slice ao' ((l.drop i).take (j-i)).length c')) w/\((l.drop i).take (j-i)).length<=c'/\LRow w 47 ao' (dZ ((l.drop i).take (j-i))):=by
 have h1:(i:Int)<=(c:Int):=by omega
 have h2:(0:Int)<=(i:Int):=by omega
 have h3:(i:Int).toNat=i:=by omega
 have h4:(j:Int)<=(c:Int):=by omega
 have h5:(0:Int)<=(j:Int):=by omega
 have h6:(j:Int).toNat=j:=by omega
 have h7:(i:Int)<=(j:Int):=by omega
 have hl:((l.drop i).take (j-i)).length=j-i:=by simp;omega
 rw[hl];cases ao with
 | none=>
  refine⟨none,c-i,?_,by omega,fun hc=>?_⟩
  ·unfold execOp
   simp[ho,hx,hy,hz,go_sem,h1,h2,h3,h4,h5,h6,h7]
  ·obtain⟨b,o',e,_⟩:=hr (fun q=>hc (by rw[iI,iJ,q];simp))
   cases e
 | some a=>
  refine⟨if c=i then some a else some (a.add (i*2)),c-i,?_,by omega,fun hc=>?_⟩
  ·unfold execOp
   simp[ho,hx,hy,hz,go_sem,h1,h2,h3,h4,h5,h6,h7]
  ·have hlt:i<l.length:=by
    rcases Nat.lt_or_ge i l.length with q|q
    ·exact q
    ·exfalso
     apply hc;rw[List.drop_eq_nil_of_le q,List.take_nil];rfl
   obtain⟨b,o',e,_⟩:=hr (fun q=>hc (by rw[iI,iJ,q];simp));cases e;rw[if_neg (by omega),Addr.add_mid,iI,iJ];refine LRow.take (LRow.drop hr (i*2)) _ ?_;rw[<-iJ,<-iI];exact hc
theorem K5{o:Oper}{ev:Operand->Value}{x y z:Operand}{ao:Option Addr}{l:List En}{c i j:Nat}{w:World}(ho:o.op=.slice 24 x (some y) (some z) none)(hx:ev x=.slice ao l.length c)(hy:ev y=.int .i64 (i:Int))(hz:ev z=.int .i64 (j:Int))(hij:i<=j)(hi:j<=l.length)(hn:l.length<=c)(hr:LRow w 47 ao (dZ l)):
  ∃ u w',(execOp ev o).run Tryz.prog w=.ok (.value u) w'/\RB w w'/\SlE ((l.drop i).take (j-i)) u w':=by
 obtain⟨ao',c',h0,h1,h2⟩:=P1 ho hx hy hz hij hi hn hr;exact⟨_,w,h0,rr _,ao',c',rfl,h1,h2⟩
theorem iY{r:Result Next}{A B:Value->World->Prop}(h:∃ u w',r=.ok (.value u) w'/\A u w')(k:∀ u w',A u w'->B u w'):∃ u w',r=.ok (.value u) w'/\B u w':=by
 obtain⟨u,w',e,h⟩:=h;exact⟨u,w',e,k u w' h⟩
theorem E6{o:Oper}{ev:Operand->Value}{x y:Operand}{base:Nat}{l:List En}{w:World}(ho:o.op=.call { callee:=.builtin .append,args:=#[x,y],argTypes:=#[24,24] })(hx:LE base 47 (ev x) w)(hy:SlE l (ev y) w)(hl:l.length<=1048576)(hb:base<=w.heap.size):
  ∃ u w',(execOp ev o).run Tryz.prog w=.ok (.value u) w'/\RB w w'/\∃ a c,u=.slice a l.length c/\OwE w' base a c l:=by
 obtain⟨g,e1,_,_,h0⟩:=hx;obtain⟨ao,c,e2,_,hr⟩:=hy
 obtain⟨ao',cap',w',hrun,hown,hrb⟩:=zH Tryz.elEnQ w o.type base g (fun j=>if j<l.length*2 then lf (dZ l) j else .bool false) (h0 2 _) ao l.length c (fun hm=>by
  obtain⟨b,o',e',hc⟩:=hr.g (dE l) hm
  exact⟨b,o',e',fun j hj=>by
   rw[hc j hj]
   simp only[if_pos hj]⟩) (fun j=>by
  by_cases q:j<l.length*2
  ·simp only[if_pos q];exact yM l j q
  ·simp only[if_neg q];rfl) hl hb
 exact⟨_,w',dP ho e1 e2 hrun,hrb,ao',cap',rfl,GOwn.congr hown (fun j hj=>if_pos hj)⟩
def MgV(base:Nat)(m:Ms)(v:Value)(w:World):Prop:=∃ a c,v=eS m a c/\OwE w base a c m.ents
theorem MgV.rb{base:Nat}{m:Ms}(v:Value)(w w':World)(h:MgV base m v w)(hb:RB w w'):MgV base m v w':=by
 obtain⟨a,c,e,h⟩:=h;exact⟨a,c,e,h.next hb⟩
def OwV(base:Nat)(l:List En)(v:Value)(w:World):Prop:=∃ a c,v=.slice a l.length c/\OwE w base a c l
theorem OwV.rb{base:Nat}{l:List En}(v:Value)(w w':World)(h:OwV base l v w)(hb:RB w w'):OwV base l v w':=by
 obtain⟨a,c,e,h⟩:=h;exact⟨a,c,e,h.next hb⟩
def Mg1(base:Nat)(m:Ms)(v:Value)(w:World):Prop:=∃ B a c,v=.slice (some ⟨B,0,none⟩) 1 1/\MsB w B m a c/\OwE w base a c m.ents
theorem Mg1.rb{base:Nat}{m:Ms}(v:Value)(w w':World)(h:Mg1 base m v w)(hb:RB w w'):Mg1 base m v w':=by
 obtain⟨B,a,c,e,h1,h2⟩:=h;exact⟨B,a,c,e,h1.next hb,h2.next hb⟩
theorem xF{o:Oper}{ev:Operand->Value}{x y:Operand}{base:Nat}{l:List Mq}{ao:Option Addr}{cap:Nat}{m:Ms}{w:World}(ho:o.op=.call { callee:=.builtin .append,args:=#[x,y],argTypes:=#[32,32] })(hx:ev x=.slice ao l.length cap)(hN:NetO w base ao cap l)(hy:Mg1 base m (ev y) w)(hl:l.length<=1000)(hb:base<=w.heap.size):
  ∃ u w',(execOp ev o).run Tryz.prog w=.ok (.value u) w'/\NetV base (l.map (·.m)++[m]) u w'/\w.grownBy w' (Value.slice ao l.length cap).ownBlock:=by
 obtain⟨B,a,c,e2,hB,hE⟩:=hy
 have hgr:GRow w (some ⟨B,0,none⟩) (1*9) (fun j=>if j<9 then lf (bZ m a c) j else .bool false):=fun _=>⟨B,0,rfl,fun j hj=>by
  have hj9:j<9:=by omega
  rw[Nat.zero_add,hB.cell hj9]
  simp only[if_pos hj9]⟩
 obtain⟨ao',cap',w',hrun,hown,hg,_⟩:=lN Tryz.elM w o.type base _ ao l.length cap hN.o (some ⟨B,0,none⟩) 1 1 _ hgr (fun j=>by
  by_cases q:j<9
  ·simp only[if_pos q];exact rE ⟨m,a,c⟩ j q
  ·simp only[if_neg q];rfl) (by omega) hb
 refine⟨_,w',dP ho hx e2 hrun,⟨ao',cap',l++[⟨m,a,c⟩],by simp,by simp,?_⟩,hg⟩
 exact hN.more hE hg (hown.congr (fun j hj=>by
  by_cases q:j<l.length*9
  ·rw[if_pos q,if_pos q]
  ·rw[if_neg q,if_neg q,if_pos (by omega)]))
theorem kW(a b:Int)(w:World):Calls Tryz.prog 83 #[.int .i64 a,.int .i64 b] w fun e w'=>e=.returned (.int .i64 (min a b))/\RB w w':=by
 by_cases h:a<b
 ·go_enter Tryz.func83,Tryz.ntmps83
  go_wp2;go_ret;exact⟨by rw[Int.min_eq_left (by omega)];rfl,rr _⟩
 ·go_enter Tryz.func83,Tryz.ntmps83
  go_wp2;go_ret;exact⟨by rw[Int.min_eq_right (by omega)];rfl,rr _⟩
theorem jH(a b:Int)(w:World):Calls Tryz.prog 69 #[.int .i64 a,.int .i64 b] w fun e w'=>e=.returned (.int .i64 (max a b))/\RB w w':=by
 by_cases h:b<a
 ·go_enter Tryz.func69,Tryz.ntmps69
  go_wp2;go_ret;exact⟨by rw[Int.max_eq_left (by omega)];rfl,rr _⟩
 ·go_enter Tryz.func69,Tryz.ntmps69
  go_wp2;go_ret;exact⟨by rw[Int.max_eq_right (by omega)];rfl,rr _⟩
theorem E7{l:List En}:bM (l.take 0)=0:=by simp[bM,dR]
theorem E8{l:List En}{i:Nat}(h:i+1<=l.length):bM (l.take (i+1))=cL l i:=by
 have h1:(l.take (i+1)).length=i+1:=by simp;omega
 simp only[bM,dR,h1];rw[if_neg (by omega)];simp[cL]
theorem P2{l:List En}{i en:Nat}(hi:i<=l.length)(h:(en:Int)=min (l.length:Int) ((i:Int)+5)):(l.drop i).take (en-i)=(l.drop i).take 5:=by
 by_cases q:i+5<=l.length
 ·have:en-i=5:=by omega
  rw[this]
 ·rw[List.take_of_length_le (by simp;omega),List.take_of_length_le (by simp;omega)]
theorem mM(n:Nd)(s:NdS)(hz:NdZ n s)(hp:1<=n.peers/\n.peers<=5)(hx:n.role=3->(n.next.length:Int)=n.peers/\∀ i,i<n.next.length->1<=aT n.next i/\aT n.next i<=n.log.length+1)(w:World)(hM:NdM w n s):Calls Tryz.prog 56 #[aX n s] w fun e w'=>∃ v,e=.returned v/\NetV w.heap.size (if n.role=3 then dU n else []) v w'/\RB w w':=by
 have hzl:=hz.l;have hlc:=hz.lc;clear hz;obtain⟨lo,lc,vo,vc,no,nc,mo,mc⟩:=s;simp only at hlc;have hb:=ra w (.cells (aJ n ⟨lo,lc,vo,vc,no,nc,mo,mc⟩).toArray 27);have vA:NdB _ w.heap.size n ⟨lo,lc,vo,vc,no,nc,mo,mc⟩:=aH w n ⟨lo,lc,vo,vc,no,nc,mo,mc⟩;have HM:Hid (∀ W,RB w W->NdM W n ⟨lo,lc,vo,vc,no,nc,mo,mc⟩):=fun W h=>hM.next h
 go_enter Tryz.func56,Tryz.ntmps56;refine aW fun K0 hK0=>?_
 go_wp2;refine hK0.out _ _ ?_;clear hK0;generalize (w.alloc _)=W at hb vA ⊢;have hal:=ra W (.cells #[] 29);have hE:GOwn (W.alloc (.cells #[] 29)) W.heap.size 29 9 (some ⟨W.heap.size,0,none⟩) 0 0 (lf (jV [])):=GOwn.empty W 29 9 _;have hN0:NetV w.heap.size [] (.slice (some ⟨W.heap.size,0,none⟩) 0 0) (W.alloc (.cells #[] 29)):=⟨_,_,[],rfl,rfl,hE.from hb.size,fun q hq=>by cases hq⟩
 replace hb:=rt _ _ _ hb hal;replace vA:NdB (W.alloc (.cells #[] 29)) w.heap.size n ⟨lo,lc,vo,vc,no,nc,mo,mc⟩:=vn vA hal;obtain⟨c0,c1,c2,c3,c4,c5,c6,c7,c8,c9⟩:=cN vA;clear hal hE
 by_cases h3:n.role=3
 rotate_left
 ·have g3:(n.role != 3)=true:=by simp[h3]
  rw[if_neg h3];clear h3 hx;go_wp2;go_ret;exact⟨_,rfl,hN0,hb⟩
 have g3:(n.role != 3)=false:=by simp[h3]
 rw[if_pos h3];obtain⟨hnl,hnx⟩:=hx h3;clear h3 hx;replace hnl:Hid _:=hnl;obtain⟨P,hP⟩:∃ P:Nat,n.peers=(P:Int):=⟨n.peers.toNat,by omega⟩
 have hbl:dU n=eE n.id (fun k=>eK n (iZ n k) k) P:=by
  unfold dU;rw[hP];rfl
 rw[hbl]
 have hPl:Hid (P=n.next.length):=by
  have:=hnl.out
  show _ = _
  omega
 have hP5:P<=5:=by omega
 replace hP:Hid (n.peers=(P:Int)):=hP;clear hbl;obtain⟨xb,xq,e,_,hclx⟩:=hM.x (fun h=>by have:=cO n.next;have h2:=hnl.out;rw[h]at this;simp at this;omega);simp only at e;subst e;have HV:Hid (∀ j,j<n.next.length->w.cell? ⟨xb,xq+j,none⟩=some (.int .i64 (aT n.next j))):=fun j hj=>hclx _ _ (fZ hj)
 clear hclx hM;go_wp2;clear c0 c1 c2 c3 c4 c5 c6 c7 c8 c9 g3
 go_loopw [3,4,5,6,7] (fun x3 x4 x5 x6 x7 wr=>∃ k:Nat,k<=P/\x4=.int .i64 (k:Int)/\NetV w.heap.size (eE n.id (fun k=>eK n (iZ n k) k) k) x3 wr/\NdB wr w.heap.size n ⟨lo,lc,vo,vc,some ⟨xb,xq,none⟩,nc,mo,mc⟩/\RB w wr) (fun _ x _ _ _ _=>P-(intOf x).toNat)
 case atStart=>exact⟨0,Nat.zero_le _,rfl,hN0,vA,hb⟩
 case round=>
  obtain⟨k,hk,rfl,⟨ao,cap,l,rfl,hl,hN⟩,vW,hRW⟩:=hrel;clear vA hb hN0;obtain⟨c0,c1,c2,c3,c4,c5,c6,c7,c8,c9⟩:=cN vW
  by_cases hlt:k<P
  rotate_left
  ·obtain rfl:k=P:=by omega
   have hge:¬ (k:Int)<n.peers:=by have:=hP.out;omega
   go_wp2;go_ret;exact⟨_,rfl,⟨ao,cap,l,rfl,hl,hN⟩,hRW⟩
  have hlt':(k:Int)<n.peers:=by have:=hP.out;omega
  have hwk:IntKind.i64.wrap ((k:Int)+1)=(k:Int)+1:=wi
  by_cases hid:(k:Int)=n.id
  ·have e:eE n.id (fun k=>eK n (iZ n k) k) (k+1)=eE n.id (fun k=>eK n (iZ n k) k) k:=by simp only[eE];rw[if_pos hid]
   have hid':((k:Int)==n.id)=true:=by simp[hid]
   clear hid;replace e:Hid _:=e;go_wp2
   go_roundw
   case rel=>exact⟨k+1,by omega,by go_num,⟨ao,cap,l,rfl,hl.trans e.out.symm,hN⟩,vW,hRW⟩
   case measure=>first|(simp[intOf];omega)|(simp[intOf];done)
  have hid':((k:Int)==n.id)=false:=by simp[hid]
  have hll:l.length<=1000:=by
   have h1:=gK n.id (fun k=>eK n (iZ n k) k) k;rw[<-hl,List.length_map]at h1;omega
  have hkx:k<n.next.length:=by have:=hPl.out;omega
  have hkx':(k:Int)<(n.next.length:Int):=by omega
  obtain⟨i,hi⟩:∃ i:Nat,aT n.next k=(i:Int)+1:=⟨(aT n.next k-1).toNat,by have:=(hnx k hkx).1;omega⟩
  have hil:i<=n.log.length:=by have:=(hnx k hkx).2;omega
  have cv:=aB hRW nl (HV.out k hkx);rw[hi]at cv;have hni:iZ n k=i:=by simp[iZ,hi]
  have e:eE n.id (fun k=>eK n (iZ n k) k) (k+1)=eE n.id (fun k=>eK n (iZ n k) k) k++[eK n i k]:=by
   simp only[eE];rw[if_neg hid,hni]
  replace e:Hid _:=e;replace hi:Hid _:=hi;replace hl:Hid _:=hl;replace hni:Hid _:=hni;have hwi:IntKind.i64.wrap ((i:Int)+1-1)=(i:Int):=wi
  have hwi2:IntKind.i64.wrap (i:Int)=(i:Int):=wi
  have hwi5:IntKind.i64.wrap ((i:Int)+5)=(i:Int)+5:=wi
  clear hid hnx;have hM4:LRow wr 47 lo (dZ n.log):=(HM.out wr hRW).l;obtain⟨en,hen⟩:∃ en:Nat,(en:Int)=min (n.log.length:Int) ((i:Int)+5):=⟨(min (n.log.length:Int) ((i:Int)+5)).toNat,by omega⟩
  have hien:i<=en:=by omega
  have henl:en<=n.log.length:=by omega
  have hfive:=P2 hil hen;replace hen:Hid _:=hen;replace hfive:Hid _:=hfive
  by_cases hi0:0<(i:Int)
  ·obtain⟨gb,gq,eg,_,hclg⟩:=hM4 (fun h=>by have:=dE n.log;rw[h]at this;simp at this;omega)
   subst eg;have hrow:=hclg _ _ (lO (l:=n.log) (k:=i-1) (by omega)).1
   have hT6:cL n.log (i-1)=bM (n.log.take i):=by
    obtain⟨j,rfl⟩:∃ j,i=j+1:=⟨i-1,by omega⟩
    rw[E8 hil];rfl
   have hj1:(0:Int)<=(i:Int)-1:=by omega
   have hj2:(i:Int)-1<(n.log.length:Int):=by omega
   have hj3:((i:Int)-1).toNat=i-1:=by omega
   have hj4:(1:Int)<=(i:Int):=by omega
   have hwj:IntKind.i64.wrap ((i:Int)-1)=(i:Int)-1:=wi
   generalize cL n.log (i-1)=T at hrow hT6;replace hT6:Hid _:=hT6;clear hclg
   go_wp2_with fail
   refine (kW (n.log.length:Int) ((i:Int)+5) _).mono ?_;rintro e1 w1 ⟨rfl,hb1⟩;rw[<-hen.out];replace hRW:=rt _ _ _ hRW hb1;replace vW:NdB w1 w.heap.size n ⟨some ⟨gb,gq,none⟩,lc,vo,vc,some ⟨xb,xq,none⟩,nc,mo,mc⟩:=vn vW hb1;replace hN:=hN.next hb1;replace hM4:=hM4.next hb1;clear hb1 c0 c1 c2 c3 c4 c5 c6 c7 c8 c9 cv
   go_wp2_with fail
   have hd:RB w1 w1.drew:=(Below.refl _ _).drew;replace hRW:=rt _ _ _ hRW hd;replace vW:NdB w1.drew w.heap.size n ⟨some ⟨gb,gq,none⟩,lc,vo,vc,some ⟨xb,xq,none⟩,nc,mo,mc⟩:=vn vW hd;replace hN:=hN.next hd;replace hM4:=hM4.next hd;have hbs:=hRW.size;clear hd;clear hrow hj1 hj2 hj3 hj4 hwj
   refine kD (by kernel_rfl) (by kernel_rfl) RB rr rt
    [isV (.slice ao l.length cap),isV (.pointer (some ⟨w.heap.size,2,none⟩)),isV (.int .i64 n.term),isV (.pointer (some ⟨w.heap.size,0,none⟩)),isV (.int .i64 n.id),isV (.int .i64 (k:Int)),isV (.int .i64 (i:Int)),isV (.int .i64 T),LE w.heap.size 47,isV (.pointer (some ⟨w.heap.size,4,none⟩)),isV (.slice (some ⟨gb,gq,none⟩) n.log.length lc),isV (.int .i64 (i:Int)),isV (.int .i64 (en:Int)),SlE ((n.log.drop i).take (en-i)),OwV w.heap.size ((n.log.drop i).take (en-i)),isV (.pointer (some ⟨w.heap.size,6,none⟩)),isV (.int .i64 n.commit),MgV w.heap.size (eK n i k),Mg1 w.heap.size (eK n i k)]
    ⟨iR,iR,iR,iR,iR,iR,iR,iR,LE.rb,iR,iR,iR,iR,SlE.rb,OwV.rb,iR,iR,MgV.rb,Mg1.rb,trivial⟩ (by kernel_rfl) _ _ rfl rfl (by kernel_rfl) (by kernel_rfl) (by kernel_rfl) ?_
    (fun v u w9=>NetV w.heap.size (l.map (·.m)++[(eK n i k)]) u w9/\NdB w9 w.heap.size n ⟨some ⟨gb,gq,none⟩,lc,vo,vc,some ⟨xb,xq,none⟩,nc,mo,mc⟩/\RB w w9) ?_ ?_
   ·simp only[List.size_toArray,List.length_cons,List.length_nil,Nat.reduceAdd,Nat.reduceSub,List.take_succ_cons,List.take_zero]
    refine⟨?_,?_,?_,?_,?_,?_,?_,?_,?_,?_,?_,?_,?_,?_,?_,?_,?_,?_,?_,trivial⟩
    ·exact ow 3
    ·exact ow 1
    ·exact oc 1 45 fun _ hR=>(vW.next hR).cell (j:=2) (by omega)
    ·exact ow 1
    ·exact oc 3 47 fun _ hR=>(vW.next hR).cell (j:=0) (by omega)
    ·exact ow 4
    ·exact ow 5
    ·exact ow 6
    ·exact OpOk.val rfl fun ev w9 v hR E pr=>⟨_,w9.alloc (.cells #[] 47),by simp[go_sem],ra _ _,LE.new w9 _ _ (Nat.le_trans hbs hR.size)⟩
    ·exact ow 1
    ·exact oc 9 53 fun _ hR=>(vW.next hR).cell (j:=4) (by omega)
    ·exact ow 5
    ·exact ow 7
    ·refine OpOk.val rfl fun ev w9 v hR E pr=>?_
     have e1:=E.eq pr 10 54;have e2:=E.eq pr 11 55;have e3:=E.eq pr 12 56;exact K5 rfl e1 e2 e3 hien henl hlc (hM4.next hR)
    ·refine OpOk.val rfl fun ev w9 v hR E pr=>?_
     exact E6 rfl (E.get pr 8 52) (E.get pr 13 57) (by simp;omega) (Nat.le_trans hbs hR.size)
    ·exact ow 1
    ·exact oc 15 59 fun _ hR=>(vW.next hR).cell (j:=6) (by omega)
    ·refine OpOk.val rfl fun ev w9 v hR E pr=>?_
     have e1:=E.eq pr 2 46;have e2:=E.eq pr 4 48;have e3:=E.eq pr 5 49;have e4:=E.eq pr 6 50;have e5:=E.eq pr 7 51;obtain⟨a,c,e6,ho⟩:OwV w.heap.size ((n.log.drop i).take (en-i)) (ev (.tmp 58)) w9:=E.get pr 14 58;have e7:=E.eq pr 16 60;rw[hfive.out]at e6 ho;exact⟨eS (eK n i k) a c,w9,by simp[go_sem,e1,e2,e3,e4,e5,e6,e7,E.con,eK,hT6.out],rr _,a,c,rfl,ho⟩
    ·refine OpOk.val rfl fun ev w9 v hR E pr=>?_
     obtain⟨a,c,e1,ho⟩:MgV w.heap.size (eK n i k) (ev (.tmp 61)) w9:=E.get pr 17 61;exact⟨.slice (some ⟨w9.heap.size,0,none⟩) 1 1,w9.alloc (.cells (bZ (eK n i k) a c).toArray 29),by simp[go_sem,e1],ra _ _,_,a,c,rfl,bJ w9 (eK n i k) a c,ho.next (ra _ _)⟩
   ·intro ev w9 v hR E hp
    obtain⟨p0,_,_,_,_,_,_,_,_,_,_,_,_,_,_,_,_,_,p18,_⟩:=hp;have E0:=E.at_ 0 44 rfl (by kernel_rfl) (nb (by kernel_rfl));have E1:=E.at_ 18 62 rfl (by kernel_rfl) (nb (by kernel_rfl));have hN9:=hN.next hR;refine iY (xF rfl (E0.trans p0) hN9 (by rw[E1];exact p18) hll (Nat.le_trans hbs hR.size)) ?_;rintro u w8 ⟨hv,hg⟩;exact⟨hv,VHas.gr (vn vW hR) hg (fun x e=>hN9.o.typed e) (by decide),jO (rt _ _ _ hRW hR) hg (fun x e=>(hN9.o.at e).1)⟩
   ·rintro v u w9 ⟨hv9,vW9,hR9⟩
    simp only[List.size_toArray,List.length_cons,List.length_nil,Nat.reduceAdd,Nat.reduceSub,List.take_succ_cons,List.take_zero,bF,Act.put,sY,sZ,ss];refine⟨u,by simp[go_sem],?_⟩;rw[hl.out,<-e.out]at hv9;clear vW hN hRW;go_wp2
    go_roundw
    case rel=>exact⟨k+1,by omega,by go_num,hv9,vW9,hR9⟩
    case measure=>first|(simp[intOf];omega)|(simp[intOf];done)
  ·have hT6:Hid ((0:Int)=bM (n.log.take i)):=by
    obtain rfl:i=0:=by omega
    show _ = _
    rw[E7]
   go_wp2_with fail
   refine (kW (n.log.length:Int) ((i:Int)+5) _).mono ?_;rintro e1 w1 ⟨rfl,hb1⟩;rw[<-hen.out];replace hRW:=rt _ _ _ hRW hb1;replace vW:NdB w1 w.heap.size n ⟨lo,lc,vo,vc,some ⟨xb,xq,none⟩,nc,mo,mc⟩:=vn vW hb1;replace hN:=hN.next hb1;replace hM4:=hM4.next hb1;clear hb1 c0 c1 c2 c3 c4 c5 c6 c7 c8 c9 cv
   go_wp2_with fail
   have hd:RB w1 w1.drew:=(Below.refl _ _).drew;replace hRW:=rt _ _ _ hRW hd;replace vW:NdB w1.drew w.heap.size n ⟨lo,lc,vo,vc,some ⟨xb,xq,none⟩,nc,mo,mc⟩:=vn vW hd;replace hN:=hN.next hd;replace hM4:=hM4.next hd;have hbs:=hRW.size;clear hd
   refine kD (by kernel_rfl) (by kernel_rfl) RB rr rt
    [isV (.slice ao l.length cap),isV (.pointer (some ⟨w.heap.size,2,none⟩)),isV (.int .i64 n.term),isV (.pointer (some ⟨w.heap.size,0,none⟩)),isV (.int .i64 n.id),isV (.int .i64 (k:Int)),isV (.int .i64 (i:Int)),isV (.int .i64 0),LE w.heap.size 47,isV (.pointer (some ⟨w.heap.size,4,none⟩)),isV (.slice lo n.log.length lc),isV (.int .i64 (i:Int)),isV (.int .i64 (en:Int)),SlE ((n.log.drop i).take (en-i)),OwV w.heap.size ((n.log.drop i).take (en-i)),isV (.pointer (some ⟨w.heap.size,6,none⟩)),isV (.int .i64 n.commit),MgV w.heap.size (eK n i k),Mg1 w.heap.size (eK n i k)]
    ⟨iR,iR,iR,iR,iR,iR,iR,iR,LE.rb,iR,iR,iR,iR,SlE.rb,OwV.rb,iR,iR,MgV.rb,Mg1.rb,trivial⟩ (by kernel_rfl) _ _ rfl rfl (by kernel_rfl) (by kernel_rfl) (by kernel_rfl) ?_
    (fun v u w9=>NetV w.heap.size (l.map (·.m)++[(eK n i k)]) u w9/\NdB w9 w.heap.size n ⟨lo,lc,vo,vc,some ⟨xb,xq,none⟩,nc,mo,mc⟩/\RB w w9) ?_ ?_
   ·simp only[List.size_toArray,List.length_cons,List.length_nil,Nat.reduceAdd,Nat.reduceSub,List.take_succ_cons,List.take_zero]
    refine⟨?_,?_,?_,?_,?_,?_,?_,?_,?_,?_,?_,?_,?_,?_,?_,?_,?_,?_,?_,trivial⟩
    ·exact ow 3
    ·exact ow 1
    ·exact oc 1 45 fun _ hR=>(vW.next hR).cell (j:=2) (by omega)
    ·exact ow 1
    ·exact oc 3 47 fun _ hR=>(vW.next hR).cell (j:=0) (by omega)
    ·exact ow 4
    ·exact ow 5
    ·exact ow 6
    ·exact OpOk.val rfl fun ev w9 v hR E pr=>⟨_,w9.alloc (.cells #[] 47),by simp[go_sem],ra _ _,LE.new w9 _ _ (Nat.le_trans hbs hR.size)⟩
    ·exact ow 1
    ·exact oc 9 53 fun _ hR=>(vW.next hR).cell (j:=4) (by omega)
    ·exact ow 5
    ·exact ow 7
    ·refine OpOk.val rfl fun ev w9 v hR E pr=>?_
     have e1:=E.eq pr 10 54;have e2:=E.eq pr 11 55;have e3:=E.eq pr 12 56;exact K5 rfl e1 e2 e3 hien henl hlc (hM4.next hR)
    ·refine OpOk.val rfl fun ev w9 v hR E pr=>?_
     exact E6 rfl (E.get pr 8 52) (E.get pr 13 57) (by simp;omega) (Nat.le_trans hbs hR.size)
    ·exact ow 1
    ·exact oc 15 59 fun _ hR=>(vW.next hR).cell (j:=6) (by omega)
    ·refine OpOk.val rfl fun ev w9 v hR E pr=>?_
     have e1:=E.eq pr 2 46;have e2:=E.eq pr 4 48;have e3:=E.eq pr 5 49;have e4:=E.eq pr 6 50;have e5:=E.eq pr 7 51;obtain⟨a,c,e6,ho⟩:OwV w.heap.size ((n.log.drop i).take (en-i)) (ev (.tmp 58)) w9:=E.get pr 14 58;have e7:=E.eq pr 16 60;rw[hfive.out]at e6 ho;exact⟨eS (eK n i k) a c,w9,by simp[go_sem,e1,e2,e3,e4,e5,e6,e7,E.con,eK,<-hT6.out],rr _,a,c,rfl,ho⟩
    ·refine OpOk.val rfl fun ev w9 v hR E pr=>?_
     obtain⟨a,c,e1,ho⟩:MgV w.heap.size (eK n i k) (ev (.tmp 61)) w9:=E.get pr 17 61;exact⟨.slice (some ⟨w9.heap.size,0,none⟩) 1 1,w9.alloc (.cells (bZ (eK n i k) a c).toArray 29),by simp[go_sem,e1],ra _ _,_,a,c,rfl,bJ w9 (eK n i k) a c,ho.next (ra _ _)⟩
   ·intro ev w9 v hR E hp
    obtain⟨p0,_,_,_,_,_,_,_,_,_,_,_,_,_,_,_,_,_,p18,_⟩:=hp;have E0:=E.at_ 0 44 rfl (by kernel_rfl) (nb (by kernel_rfl));have E1:=E.at_ 18 62 rfl (by kernel_rfl) (nb (by kernel_rfl));have hN9:=hN.next hR;refine iY (xF rfl (E0.trans p0) hN9 (by rw[E1];exact p18) hll (Nat.le_trans hbs hR.size)) ?_;rintro u w8 ⟨hv,hg⟩;exact⟨hv,VHas.gr (vn vW hR) hg (fun x e=>hN9.o.typed e) (by decide),jO (rt _ _ _ hRW hR) hg (fun x e=>(hN9.o.at e).1)⟩
   ·rintro v u w9 ⟨hv9,vW9,hR9⟩
    simp only[List.size_toArray,List.length_cons,List.length_nil,Nat.reduceAdd,Nat.reduceSub,List.take_succ_cons,List.take_zero,bF,Act.put,sY,sZ,ss];refine⟨u,by simp[go_sem],?_⟩;rw[hl.out,<-e.out]at hv9;clear vW hN hRW;go_wp2
    go_roundw
    case rel=>exact⟨k+1,by omega,by go_num,hv9,vW9,hR9⟩
    case measure=>first|(simp[intOf];omega)|(simp[intOf];done)
def A5(n:Nd):Nat->Int
 | 0=>n.commit
 | k+1=>if n.commit<(k:Int)+1 then (if (cL n.log k==n.term&&fM n.peers (jZ ((k:Int)+1) n.mat))=true then (k:Int)+1 else A5 n k) else n.commit
def lH(n:Nd):Int:=A5 n n.log.length
theorem M4(n:Nd){k:Nat}(h:(k:Int)<=n.commit):A5 n k=n.commit:=by
 cases k with
 | zero=>rfl
 | succ k=>simp only[A5];rw[if_neg (by omega)]
theorem pI(n:Nd)(s:NdS)(hz:NdZ n s)(hc:0<=n.commit)(w:World)(hM:NdM w n s):Calls Tryz.prog 77 #[aX n s] w fun e w'=>e=.returned (.int .i64 (lH n))/\RB w w':=by
 have hzl:=hz.l;have hzm:=hz.m;clear hz;have hcl:∀ k:Nat,jZ ((k:Int)+1) n.mat<=1048576:=fun k=>Nat.le_trans (List.countP_le_length ..) hzm
 have EO:=fun s W=>gD n s hzl W
 obtain⟨lo,lc,vo,vc,no,nc,mo,mc⟩:=s;have hb:=ra w (.cells (aJ n ⟨lo,lc,vo,vc,no,nc,mo,mc⟩).toArray 27);have vA:=aH w n ⟨lo,lc,vo,vc,no,nc,mo,mc⟩;replace hM:=hM.next hb;go_enter Tryz.func77,Tryz.ntmps77
 go_wp2_with fail
 generalize (w.alloc _)=W at hb vA hM ⊢;refine (EO ⟨lo,lc,vo,vc,no,nc,mo,mc⟩ _).mono ?_;rintro e w1 ⟨rfl,hb1⟩;replace hb:=rt _ _ _ hb hb1;replace vA:NdB w1 w.heap.size n ⟨lo,lc,vo,vc,no,nc,mo,mc⟩:=vn vA hb1;replace hM:=hM.next hb1;clear hb1;go_wp2
 go_loopw [3] (fun x3 wr=>∃ m:Nat,m<=n.log.length/\x3=.int .i64 (m:Int)/\lH n=A5 n m/\RB w1 wr) (fun x _=>(intOf x).toNat)
 case atStart=>exact⟨n.log.length,Nat.le_refl _,rfl,rfl,rr _⟩
 case round=>
  obtain⟨m,hm,rfl,hq,hRW⟩:=hrel;have vW:NdB wr w.heap.size n ⟨lo,lc,vo,vc,no,nc,mo,mc⟩:=vn vA hRW;have c6:=VHas.cell vW (j:=6) (by omega);simp[lf]at c6
  by_cases hlow:(m:Int)<=n.commit
  ·rw[M4 n hlow]at hq
   have hlow':¬ n.commit<(m:Int):=by omega
   go_wp2;go_ret;exact⟨by first|rfl|(rw[hq];rfl),rt _ _ _ hb hRW⟩
  obtain⟨k,rfl⟩:∃ k,m=k+1:=⟨m-1,by omega⟩
  obtain⟨b,o,e,_,hcl2⟩:=(hM.next hRW).l (fun h=>by have:=dE n.log;rw[h]at this;simp at this;omega);simp only at e;subst e;have hrow:=hcl2 _ _ (lO (l:=n.log) (k:=k) (by omega)).1;replace hcl:=hcl k;have hlow':n.commit<(k:Int)+1:=by omega
  have hlt2:(k:Int)<(n.log.length:Int):=by omega
  have hk0:(0:Int)<=(k:Int):=by omega
  have htn:(k:Int).toNat=k:=by omega
  have hwk:IntKind.i64.wrap (k:Int)=(k:Int):=wi
  have ek:((k+1:Nat):Int)=(k:Int)+1:=by omega
  rw[ek];clear hcl2 hlow
  go_wp2_with fail
  clear c6;have hd:RB wr wr.drew:=(Below.refl _ _).drew;replace hRW:=rt _ _ _ hRW hd;replace vW:NdB wr.drew w.heap.size n ⟨some ⟨b,o,none⟩,lc,vo,vc,no,nc,mo,mc⟩:=vn vW hd;replace hrow:=aB hd nl hrow;clear hd;have hw15:IntKind.i64.wrap (((k:Int)+1)-1)=(((k:Int)+1)-1):=wi
  obtain⟨b21,qb21⟩:∃ b:Bool,b=(((cL n.log k)==n.term)):=⟨_,rfl⟩
  obtain⟨c10t,hc10t⟩:∃ c:Bool,c=(true&&((b21)==true)):=⟨_,rfl⟩
  obtain⟨b27,qb27⟩:∃ b:Bool,b=(fM n.peers (jZ ((k:Int)+1) n.mat)):=⟨_,rfl⟩
  obtain⟨b28,qb28⟩:∃ b:Bool,b=((b21&&b27)):=⟨_,rfl⟩
  refine bQ (by kernel_rfl) (by kernel_rfl) RB rr rt
   [isV (.pointer (some ⟨w.heap.size,4,none⟩)),isV (.slice (some ⟨b,o,none⟩) n.log.length lc),isV (.int .i64 ((k:Int)+1)),isV (.int .i64 (((k:Int)+1)-1)),isV (.pointer (some ⟨b,o+k*2,none⟩)),isV (.pointer (some ⟨b,o+k*2,none⟩)),isV (.int .i64 (cL n.log k)),isV (.pointer (some ⟨w.heap.size,2,none⟩)),isV (.int .i64 n.term),isV (.bool b21),isV (.bool b21),isV (gv c10t (aX n ⟨some ⟨b,o,none⟩,lc,vo,vc,no,nc,mo,mc⟩)),isV (gv c10t (aX n ⟨some ⟨b,o,none⟩,lc,vo,vc,no,nc,mo,mc⟩)),isV (gv c10t (.int .i64 ((k:Int)+1))),isV (gv c10t (.int .i64 (jZ ((k:Int)+1) n.mat:Int))),isV (gv c10t (.bool b27)),isV (.bool b28)]
   ⟨iR,iR,iR,iR,iR,iR,iR,iR,iR,iR,iR,iR,iR,iR,iR,iR,iR,trivial⟩ rfl ?_ ?_
  ·refine⟨?_,?_,?_,?_,?_,?_,?_,?_,?_,?_,?_,?_,?_,?_,?_,?_,?_,trivial⟩
   ·exact oq rfl fun ev w' v hR E pr=>by
     have e1:=E.was 1 _;simp[go_sem,e1,hwk]
   ·exact oq rfl fun ev w' v hR E pr=>by
     have e1:=E.eq pr 0 12;have cc:=(vW.next hR).cell (j:=4) (by omega);simp[lf]at cc;simp[go_sem,cc,e1,hwk]
   ·exact oq rfl fun ev w' v hR E pr=>by
     have e1:=E.was 3 _;simp[go_sem,e1,hwk]
   ·exact oq rfl fun ev w' v hR E pr=>by
     have e1:=E.eq pr 2 14;simp[go_sem,E.con,hw15,e1,hwk]
   ·exact oq rfl fun ev w' v hR E pr=>by
     have e1:=E.eq pr 1 13;have e2:=E.eq pr 3 15;simp[go_sem,hlt2,hk0,htn,e1,e2,hwk]
   ·exact mQ 4 16 hwk
   ·exact oq rfl fun ev w' v hR E pr=>by
     have e1:=E.eq pr 5 17;have cc:=aB hR nl hrow;simp[go_sem,cc,e1,hwk]
   ·exact oq rfl fun ev w' v hR E pr=>by
     have e1:=E.was 1 _;simp[go_sem,e1,hwk]
   ·exact oq rfl fun ev w' v hR E pr=>by
     have e1:=E.eq pr 7 19;have cc:=(vW.next hR).cell (j:=2) (by omega);simp[lf]at cc;simp[go_sem,cc,e1,hwk]
   ·exact oq rfl fun ev w' v hR E pr=>by
     have e1:=E.eq pr 6 18;have e2:=E.eq pr 8 20;simp[go_sem,qb21,e1,e2,hwk]
   ·exact mQ 9 21 hwk
   ·exact OpOk.gd rr 10 22 true true (b21) (fun _ _ h=>h) c10t hc10t _ (fun _=>rfl) fun ev w' v hR E pr hC=>by
     have e1:=E.was 1 _;exact bD rfl e1 (vW.next hR)
   ·exact OpOk.gd rr 10 22 true true (b21) (fun _ _ h=>h) c10t hc10t _ (fun _=>rfl) fun ev w' v hR E pr hC=>by
     have e1:=E.was 1 _;exact bD rfl e1 (vW.next hR)
   ·exact gw 10 22 hc10t 3 hwk
   ·exact OpOk.gdCall 10 22 true true (b21) (fun _ _ h=>h) c10t hc10t _ (fun _=>rfl) fun ev w' v hR E pr hC=>by
     have e1:=E.eq pr 12 24;have e2:=E.eq pr 13 25;rw[hC]at e1;rw[hC]at e2;refine⟨108,#[aX n ⟨some ⟨b,o,none⟩,lc,vo,vc,no,nc,mo,mc⟩,.int .i64 ((k:Int)+1)],by simp[go_sem,gv,e1,e2,E.fn],?_⟩;exact qH n ⟨some ⟨b,o,none⟩,lc,vo,vc,no,nc,mo,mc⟩ ((k:Int)+1) hzm _ (hM.next (rt _ _ _ hRW hR))
   ·exact OpOk.gdCall 10 22 true true (b21) (fun _ _ h=>h) c10t hc10t _ (fun _=>rfl) fun ev w' v hR E pr hC=>by
     have e1:=E.eq pr 11 23;have e2:=E.eq pr 14 26;rw[hC]at e1;rw[hC]at e2;refine⟨89,#[aX n ⟨some ⟨b,o,none⟩,lc,vo,vc,no,nc,mo,mc⟩,.int .i64 (jZ ((k:Int)+1) n.mat:Int)],by simp[go_sem,gv,e1,e2,E.fn],?_⟩;rw[qb27];exact mZ n ⟨some ⟨b,o,none⟩,lc,vo,vc,no,nc,mo,mc⟩ (jZ ((k:Int)+1) n.mat) hcl _
   ·exact oq rfl fun ev w' v hR E pr=>by
     have e1:=E.eq pr 10 22;have e2:=E.eq pr 15 27;rcases bq (b21) with hs|hs<;>simp[go_sem,E.con,qb28,gv,hc10t,e1,e2,hs,hwk]
  ·intro v w' hR hp
   obtain⟨_,_,_,_,_,_,_,_,_,_,_,_,_,_,_,_,p16,_⟩:=hp;replace p16:v 16=.bool b28:=p16;simp only[bF,Nat.zero_add,Nat.reduceAdd,p16,Act.put,sY,sZ,ss]
   have hst:A5 n (k+1)=if b28=true then (k:Int)+1 else A5 n k:=by
    simp only[A5];rw[if_pos hlow',qb28,qb21,qb27]
   rw[hst]at hq;clear hst;rcases bq b28 with h28|h28
   ·rw[if_pos h28]at hq
    rw[h28];go_wp2;go_ret;exact⟨by first|rfl|(rw[hq];rfl),rt _ _ _ hb (rt _ _ _ hRW hR)⟩
   ·rw[if_neg (by rw[h28];simp)]at hq
    rw[h28];go_wp2
    go_roundw
    case rel=>exact⟨k,by omega,by go_num,hq,rt _ _ _ hRW hR⟩
    case measure=>first|(simp[intOf];omega)|(simp[intOf];done)
end
end Go.Proofs.YtbabakgjkloabaaGreatDoor
