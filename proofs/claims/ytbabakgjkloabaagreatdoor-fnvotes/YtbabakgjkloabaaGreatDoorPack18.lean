/-
  Helpers: Pw, Ll0, EntA, MrgS, MrgO, FitL, NewT, Ordg, Sr1, Srw.
-/
import Derived.Test.YtbabakgjkloabaaGreatDoorPack17
import Derived.Deep.DeepCutAuto
set_option linter.unusedVariables false
set_option linter.unusedSimpArgs false
set_option maxRecDepth 100000
set_option maxHeartbeats 16000000
namespace Go.Proofs.YtbabakgjkloabaaGreatDoor
section
open Go Go.RowKit
structure OkW(n:Nd):Prop where
 b:Bk n
 r:cB n=true
 z:n.role=3->0<n.term
theorem OkW.B{n:Nd}(h:OkW n):bY n=true:=(lC n).2 ⟨h.b,h.r⟩
theorem OkW.R{n:Nd}(h:OkW n):dG n=true:=by
 rw[dG,h.B,Bool.true_and];rcases bq (n.role==3) with q|q
 ·have:=h.z (by simpa using q)
  simp[q];omega
 ·simp[q]
theorem OkW.fol{n:Nd}(h:Bk n)(h1:n.role=1)(h2:n.votes=[])(h3:n.next=[])(h4:n.mat=[]):OkW n:=⟨h,by simp[cB,h1,h2,h3,h4],fun q=>by omega⟩
theorem OkW.mi{n:Nd}(b:Bk n)(h:LdR n)(hr:n.role=3)(ht:0<n.term)(i:Nat):OkW (gU n i):=by
 have hb:=lS (cF n i) b.c.2
 have h2:LdR (gU n i):=⟨h.v,h.x,by simp only[gU,List.length_set];exact h.m,fun j hj=>by
  have hrj:=h.r j hj
  show 1<=aT n.next j/\aT n.next j<=n.log.length+1/\0<=aT (n.mat.set i n.log.length) j/\aT (n.mat.set i n.log.length) j<=n.log.length
  rw[kH]
  split<;>omega⟩
 exact⟨⟨b.p,b.i,b.t,b.v,b.l,b.a,⟨Int.le_trans b.c.1 hb.1,hb.2⟩⟩,h2.role hr,fun _=>ht⟩
theorem OkW.ld{n:Nd}(b:Bk n)(hv:bB n.peers 0 n.votes=true)(ht:0<n.term):OkW (eJ n):=by
 have b1:Bk (iT n):=⟨b.p,b.i,b.t,b.v,b.l,b.a,b.c⟩
 have hp:=b.p
 have l1:LdR (iT n):=⟨hv,by simp[iT];omega,by simp[iT];omega,fun i hi=>by
  have hi':i<n.peers.toNat:=by simpa[iT] using hi
  simp only[iT];rw[rN _ _ _ hi',rN _ _ _ hi']
  omega⟩
 unfold eJ pT
 split
 ·next hr=>exact OkW.mi (b1.pr hr CQ) (l1.pr _) rfl ht _
 ·next hr=>
  exact OkW.mi b1 l1 rfl ht _
theorem OkW.pr{n:Nd}(h:OkW n)(t:ByteArray):OkW (S4 n t):=by
 unfold S4;rw[if_pos h.B]
 split
 ·next hp=>
  simp only[K3,Bool.and_eq_true,beq_iff_eq]at hp;exact OkW.mi (h.b.pr hp.2.2 hp.1) ((jN h.r hp.2.1).pr t) hp.2.1 (h.z hp.2.1) _
 ·exact h
theorem OkW.up{n:Nd}(h:OkW n){t:Int}(h1:n.term<t)(h2:t<=100000):OkW (lJ n t):=OkW.fol ⟨h.b.p,h.b.i,by have:=h.b.t;simp only[lJ];omega,.inl rfl,h.b.l,by have:=h.b.a;simp only[lJ];omega,h.b.c⟩ rfl rfl rfl rfl
theorem OkW.fo{n:Nd}(h:OkW n):OkW (bV n):=OkW.fol ⟨h.b.p,h.b.i,h.b.t,h.b.v,h.b.l,h.b.a,h.b.c⟩ rfl rfl rfl rfl
theorem OkW.vd{n:Nd}(h:OkW n)(m:Ms)(hm:1<=m.term):OkW (rG n m):=by
 unfold rG
 split
 ·next hb=>
  simp only[tU,Bool.and_eq_true,beq_iff_eq]at hb;have hp:=h.b.p;have hv:=xY n.peers (by omega) n.votes m.frm;have b2:Bk (mL n m.frm):=⟨h.b.p,h.b.i,h.b.t,h.b.v,h.b.l,h.b.a,h.b.c⟩
  split
  ·exact OkW.ld b2 hv (by show 0<n.term;omega)
  ·have hr:=h.r
   simp only[cB,hb.1,Bool.and_eq_true]at hr;refine⟨b2,?_,fun q=>by have q':n.role=3:=q;omega⟩;simp only[cB,mL,hb.1];simp at hr ⊢;exact⟨hv,hr.2⟩
 ·exact h
theorem OkW.vy{n:Nd}(h:OkW n)(m:Ms)(hf:0<=m.frm/\m.frm<n.peers):OkW (rK n m):=by
 unfold rK
 split
 ·exact⟨⟨h.b.p,h.b.i,h.b.t,.inr hf,h.b.l,h.b.a,h.b.c⟩,h.r,h.z⟩
 ·exact h
theorem OkW.ap{n:Nd}(h:OkW n)(m:Ms)(he:fJ m.ents=true)(hl:bM m.ents<=m.term)(hm:m.term<=n.term):OkW (jY n m):=by
 unfold jY
 split
 ·exact h
 ·split
  ·exact h
  ·split
   ·next hF=>
    obtain⟨h1,h2,h3,h4,h5⟩:=lD hF;obtain⟨g1,g2,g3⟩:=wG hF he;have ha:=h.b.a;have hc:=h.b.c;have g2':bM (kU (bV n) m)<=max (bM n.log) (bM m.ents):=g2;have h5':n.commit<=(kU (bV n) m).length:=h5;exact OkW.fol ⟨h.b.p,h.b.i,h.b.t,h.b.v,g1,by show bM (kU (bV n) m)<=n.term;omega,by show 0<=max n.commit (min m.commit (qF m))/\max n.commit (min m.commit (qF m))<=((kU (bV n) m).length:Int);omega⟩ rfl rfl rfl rfl
   ·exact h.fo
theorem OkW.apd{n:Nd}(h:OkW n)(m:Ms)(fr:Nat)(hf:(fr:Int)<n.peers):OkW (jU n m fr):=by
 unfold jU
 split
 ·next hb=>
  have hL:=jN h.r hb.1;have hz:=h.z hb.1;have hx:fr<n.next.length:=by have:=hL.x;omega
  have hm:fr<n.mat.length:=by have:=hL.m;omega
  have hr:=hL.r fr hx
  split
  ·have c2:=lS (fU (eB n fr (dL n m fr)) fr (dL n m fr+1)) h.b.c.2
   have c1:=h.b.c.1;have hM:aT n.mat fr<=dL n m fr/\dL n m fr<=n.log.length:=by unfold dL;split<;>omega
   refine⟨⟨h.b.p,h.b.i,h.b.t,h.b.v,h.b.l,h.b.a,⟨Int.le_trans c1 c2.1,c2.2⟩⟩,LdR.role ⟨hL.v,by simp[yP,fU,eB];exact hL.x,by simp[yP,fU,eB];exact hL.m,fun j hj=>?_⟩ hb.1,h.z⟩;have hrj:=hL.r j (by simpa[yP,fU,eB] using hj)
   show 1<=aT (n.next.set fr _) j/\aT (n.next.set fr _) j<=(n.log.length:Int)+1/\0<=aT (n.mat.set fr _) j/\aT (n.mat.set fr _) j<=(n.log.length:Int)
   rw[kH,kH]
   split<;>split<;>omega
  ·have hX:1<=rD n m fr/\rD n m fr<=n.log.length+1:=by unfold rD;omega
   refine⟨⟨h.b.p,h.b.i,h.b.t,h.b.v,h.b.l,h.b.a,h.b.c⟩,LdR.role ⟨hL.v,by simp[fU];exact hL.x,hL.m,fun j hj=>?_⟩ hb.1,h.z⟩;have hrj:=hL.r j (by simpa[fU] using hj)
   show 1<=aT (n.next.set fr _) j/\aT (n.next.set fr _) j<=(n.log.length:Int)+1/\0<=aT n.mat j/\aT n.mat j<=(n.log.length:Int)
   rw[kH]
   split<;>omega
 ·exact h
theorem OkW.rc1{n:Nd}(h:OkW n)(m:Ms)(hm:m.term<=100000):OkW (rc1 n m)/\m.term<=(rc1 n m).term/\n.term<=(rc1 n m).term/\(rc1 n m).peers=n.peers/\(rc1 n m).id=n.id:=by
 unfold Go.Proofs.YtbabakgjkloabaaGreatDoor.rc1
 split
 ·next q=>exact⟨h.up q hm,Int.le_refl _,Int.le_of_lt q,rfl,rfl⟩
 ·next q=>exact⟨h,by omega,Int.le_refl _,rfl,rfl⟩
theorem OkW.rcv{n:Nd}(h:OkW n)(m:Ms):OkW (cK n m):=by
 unfold cK
 split
 ·next hF=>
  simp only[gV,dS,Bool.and_eq_true,decide_eq_true_eq]at hF;obtain⟨_,_,hf,_,_,ht1,ht2,he,hl⟩:=hF;obtain⟨h1,h2,_,hp,_⟩:=h.rc1 m ht2;unfold gE
  split
  ·exact h1.vy m (by rw[hp];exact hf)
  ·split
   ·exact h1.vd m ht1
   ·split
    ·exact h1.ap m he hl h2
    ·exact h1.apd m _ (by rw[hp];omega)
 ·exact h
theorem TrnW.rk{n:Nd}(h:OkW n)(m:Ms):Trn n (gE n m):=by
 unfold gE
 split
 ·unfold rK
  split
  ·next hb=>
   simp only[tV,Bool.and_eq_true,Bool.or_eq_true,beq_iff_eq]at hb
   exact⟨rfl,rfl,Int.le_refl _,fun _=>by
    rcases hb.2.1 with q|q
    ·exact .inl q
    ·exact .inr q.symm,Int.le_refl _⟩
  ·exact Trn.refl n
 ·split
  ·unfold rG
   split
   ·have b2:Bk (mL n m.frm):=⟨h.b.p,h.b.i,h.b.t,h.b.v,h.b.l,h.b.a,h.b.c⟩
    have h1:Trn n (mL n m.frm):=⟨rfl,rfl,Int.le_refl _,fun _=>.inr rfl,Int.le_refl _⟩
    split
    ·exact h1.trans (Trn.ld b2)
    ·exact h1
   ·exact Trn.refl n
  ·split
   ·unfold jY
    split
    ·exact Trn.refl n
    ·split
     ·exact Trn.refl n
     ·split
      ·exact⟨rfl,rfl,Int.le_refl _,fun _=>.inr rfl,by simp only[Q8];omega⟩
      ·exact⟨rfl,rfl,Int.le_refl _,fun _=>.inr rfl,Int.le_refl _⟩
   ·unfold jU
    split
    ·split
     ·exact⟨rfl,rfl,Int.le_refl _,fun _=>.inr rfl,(lS (fU (eB n m.frm.toNat (dL n m m.frm.toNat)) m.frm.toNat (dL n m m.frm.toNat+1)) h.b.c.2).1⟩
     ·exact⟨rfl,rfl,Int.le_refl _,fun _=>.inr rfl,Int.le_refl _⟩
    ·exact Trn.refl n
theorem TrnW.rcv{n:Nd}(h:OkW n)(m:Ms):Trn n (cK n m):=by
 unfold cK
 split
 ·next hF=>
  simp only[gV,dS,Bool.and_eq_true,decide_eq_true_eq]at hF;obtain⟨_,_,_,_,_,_,ht2,_,_⟩:=hF;have h1:=(h.rc1 m ht2).1;refine Trn.trans ?_ (TrnW.rk h1 m);unfold Go.Proofs.YtbabakgjkloabaaGreatDoor.rc1
  split
  ·next q=>exact⟨rfl,rfl,Int.le_of_lt q,fun e=>by have e':m.term=n.term:=e;omega,Int.le_refl _⟩
  ·exact Trn.refl n
 ·exact Trn.refl n
def GdW(n:Nd):Prop:=bY n=true->n.role=3->0<n.term
theorem GdW.ok{n:Nd}(h:GdW n)(hB:bY n=true):OkW n:=⟨((lC n).1 hB).1,((lC n).1 hB).2,h hB⟩
theorem GdW.R{n:Nd}(h:GdW n):dG n=bY n:=by
 rcases bq (bY n) with q|q
 ·rw[q];exact (h.ok q).R
 ·rw[dG,q];rfl
theorem Q7{l:List En}(h:fJ l=true)(hl:l≠[]):1<=bM l:=by
 have hp:0<l.length:=List.length_pos_iff.2 hl;have:=(fR l).1 h |>.2 (l.length-1) (by omega)
 simp only[dJ,Bool.and_eq_true,decide_eq_true_eq]at this;unfold bM dR;rw[if_neg (by omega)];exact this.2.1
theorem GdW.of{n:Nd}(h:n.role=3->0<n.term):GdW n:=fun _=>h
theorem GdW.tm{n:Nd}(h:n.role=3->n.log≠[]):GdW n:=fun hB hr=>by
 have b:=((lC n).1 hB).1;have:=Q7 b.l (h hr);have:=b.a;omega
theorem GdW.ro{n:Nd}(h:n.role=3->n.next=[]):GdW n:=fun hB hr=>by
 obtain⟨b,r⟩:=(lC n).1 hB;have:=(jN r hr).x;rw[h hr]at this;have hp:=b.p;simp at this;omega
theorem OkN.nx{n:Nd}(h:OkN n)(hr:n.role≠3):n.next=[]:=by
 have hr':=h.r;simp only[cB,if_neg hr]at hr'
 split at hr'
 ·simp at hr';exact hr'.2.1
 ·split at hr'
  ·simp at hr';exact hr'.2.1
  ·cases hr'
theorem OkN.W{n:Nd}(h:OkN n):OkW n:=⟨h.b,h.r,fun q=>(h.z q).1⟩
theorem OkW.few{n:Nd}(h:OkW n):n.log.length<=200/\n.votes.length<=5/\n.next.length<=5/\n.mat.length<=5:=by
 have hl:=(fR n.log).1 h.b.l |>.1
 have hp:=h.b.p;have hr:=h.r;refine⟨hl,?_⟩;unfold cB at hr
 split at hr
 ·next q=>
  have hL:=jN h.r q;have:=lA n.peers n.votes 0 (by omega) (by omega) hL.v;have h1:=hL.x;have h2:=hL.m;omega
 ·split at hr
  ·simp at hr
   simp[hr]
  ·split at hr
   ·simp at hr
    have:=lA n.peers n.votes 0 (by omega) (by omega) hr.1;simp[hr];omega
   ·cases hr
theorem OkW.zz{n:Nd}{s:NdS}(h:OkW n)(ht:TxL n.log)(k1:n.log.length<=s.lc)(k2:n.votes.length<=s.vc)(k3:n.next.length<=s.nc)(k4:n.mat.length<=s.mc):NdZ n s:=by
 have hf:=h.few;exact⟨by omega,by omega,by omega,by omega,k1,k2,k3,k4,ht⟩
end
section
open Go Go.RowKit
attribute [local go_sem ↓] Go.wp_at_zero Go.wp_at_succ
section
variable {P:Program} {ops:Array Oper} {a0:Act} {w0:World} {R:World->World->Prop} {Pr:Nat->Value->World->Prop} {i:Nat} {o:Oper}
theorem OpOk.sVal(j d:Nat)(b:Bool)(hPj:∀ v w,Pr j v w->v=.bool b)
  (h:∀ (ev:Operand->Value) (w:World) (v:Nat->Value),R w0 w->EvOk ops a0 o v ev->(∀ j,j<ops.size->aK o j=true->Pr j (v j) w)->∃ u w',(execOp ev o).run P w=.ok (.value u) w'/\R w w'/\Pr i u w')
  (hg:o.guard=some (j,b):=by rfl) (h1:(ops[j]?).bind (·.dst)=some d:=by rfl) (h2:aK o j=true:=by kernel_rfl) (h3:Nat.blt d a0.tmps.size=true:=by kernel_rfl) (h4:Nat.blt j ops.size=true:=by kernel_rfl):OpOk P ops a0 w0 R Pr i o:=by
 intro a w v Q hRw hd hpr hb
 have E:EvOk ops a0 o v a.eval:=⟨fun j d hj hw hlt=>by
  cases ho:ops[j]? with
  | none=>rw[ho]at hj;cases hj
  | some p=>
   rw[ho]at hj
   exact hd j p d ho hj hlt (aQ hw),fun d hn=>hb d fun j p hj=>dN hn j p hj,fun _=>rfl,fun _=>rfl,fun _=>rfl⟩
 have hpr':∀ j,j<ops.size->aK o j=true->Pr j (v j) w:=fun j hj hw=>hpr j hj (aQ hw)
 have he:=hPj _ _ (E.get hpr' j d h1 h2 h3 h4);rw[jB (Cj:=true) (bj:=b) hg h1 he,if_pos (by simp)];obtain⟨u,w',hr,h5,h6⟩:=h a.eval w v hRw E hpr';unfold Oper.wp;rw[hr];exact⟨u,rfl,h5,h6⟩
theorem OpOk.sGet(hR:∀ w,R w w)(j d:Nat)(b:Bool)(hPj:∀ v w,Pr j v w->v=.bool b)(u:Value)(hp:∀ w,Pr i u w)
  (h:∀ (ev:Operand->Value) (w:World) (v:Nat->Value),R w0 w->EvOk ops a0 o v ev->(∀ j,j<ops.size->aK o j=true->Pr j (v j) w)->(execOp ev o).run P w=.ok (.value u) w)
  (hg:o.guard=some (j,b):=by rfl) (h1:(ops[j]?).bind (·.dst)=some d:=by rfl) (h2:aK o j=true:=by kernel_rfl) (h3:Nat.blt d a0.tmps.size=true:=by kernel_rfl) (h4:Nat.blt j ops.size=true:=by kernel_rfl):OpOk P ops a0 w0 R Pr i o:=
 OpOk.sVal j d b hPj (fun ev w v h1 h2 h3=>⟨u,w,h ev w v h1 h2 h3,hR w,hp w⟩) hg h1 h2 h3 h4
theorem OpOk.sCall(j d:Nat)(b:Bool)(hPj:∀ v w,Pr j v w->v=.bool b)
  (h:∀ (ev:Operand->Value) (w:World) (v:Nat->Value),R w0 w->EvOk ops a0 o v ev->(∀ j,j<ops.size->aK o j=true->Pr j (v j) w)->∃ f args,(execOp ev o).run P w=.ok (.enter f args) w/\Calls P f args w fun e w'=>∃ u,e=.returned u/\R w w'/\Pr i u w')
  (hg:o.guard=some (j,b):=by rfl) (h1:(ops[j]?).bind (·.dst)=some d:=by rfl) (h2:aK o j=true:=by kernel_rfl) (h3:Nat.blt d a0.tmps.size=true:=by kernel_rfl) (h4:Nat.blt j ops.size=true:=by kernel_rfl):OpOk P ops a0 w0 R Pr i o:=by
 intro a w v Q hRw hd hpr hb
 have E:EvOk ops a0 o v a.eval:=⟨fun j d hj hw hlt=>by
  cases ho:ops[j]? with
  | none=>rw[ho]at hj;cases hj
  | some p=>
   rw[ho]at hj
   exact hd j p d ho hj hlt (aQ hw),fun d hn=>hb d fun j p hj=>dN hn j p hj,fun _=>rfl,fun _=>rfl,fun _=>rfl⟩
 have hpr':∀ j,j<ops.size->aK o j=true->Pr j (v j) w:=fun j hj hw=>hpr j hj (aQ hw)
 have he:=hPj _ _ (E.get hpr' j d h1 h2 h3 h4);rw[jB (Cj:=true) (bj:=b) hg h1 he,if_pos (by simp)];obtain⟨f,args,hr,hcl⟩:=h a.eval w v hRw E hpr';unfold Oper.wp;rw[hr];refine Calls.mono hcl ?_;rintro e w' ⟨u,rfl,h5,h6⟩;exact⟨u,rfl,h5,h6⟩
theorem OpOk.never(j d:Nat)(b:Bool)(hPj:∀ v w,Pr j v w->v=.bool (!b)\/v=undef)(hp:∀ w,Pr i undef w)
  (hg:o.guard=some (j,b):=by rfl) (h1:(ops[j]?).bind (·.dst)=some d:=by rfl) (h2:aK o j=true:=by kernel_rfl) (h3:Nat.blt d a0.tmps.size=true:=by kernel_rfl) (h4:Nat.blt j ops.size=true:=by kernel_rfl):OpOk P ops a0 w0 R Pr i o:=by
 intro a w v Q hRw hd hpr hb
 have E:EvOk ops a0 o v a.eval:=⟨fun j d hj hw hlt=>by
  cases ho:ops[j]? with
  | none=>rw[ho]at hj;cases hj
  | some p=>
   rw[ho]at hj
   exact hd j p d ho hj hlt (aQ hw),fun d hn=>hb d fun j p hj=>dN hn j p hj,fun _=>rfl,fun _=>rfl,fun _=>rfl⟩
 have hpr':∀ j,j<ops.size->aK o j=true->Pr j (v j) w:=fun j hj hw=>hpr j hj (aQ hw)
 have he:=hPj _ _ (E.get hpr' j d h1 h2 h3 h4);rcases he with he|he
 ·rw[jB (Cj:=true) (bj:=!b) hg h1 he,if_neg (by simp)]
  exact hp w
 ·rw[jB (Cj:=false) (bj:=b) hg h1 he,if_neg (by simp)]
  exact hp w
end
theorem RB.dr{W W':World}(h:RB W.drew W'):RB W W':=rt _ _ _ (show RB W W.drew from (Below.refl _ _).drew) h
def BxLw(W:World)(b:Nat)(n:Nd)(s:NdS):Prop:=NdB W b n s/\NdM W n s
theorem BxLw.next{W W':World}{b:Nat}{n:Nd}{s:NdS}(h:BxLw W b n s)(hb:RB W W'):BxLw W' b n s:=⟨vn h.1 hb,h.2.next hb⟩
def AF(n:Nd):Prop:=n.log.length<=1048576/\n.votes.length<=1048576/\n.next.length<=1048576/\n.mat.length<=1048576
theorem AG:AF aU:=by simp[AF,aU]
theorem OkW.fewN{n:Nd}(h:OkW n):AF n:=by
 have:=h.few;unfold AF;omega
def G9(l:List Ms):Prop:=l.length<=1048576/\∀ q∈l,q.ents.length<=1048576
theorem wI:G9 []:=by simp[G9]
theorem AH{n:Nd}(hp:n.peers<=5):G9 (dU n):=by
 refine⟨?_,fun q hq=>?_⟩
 ·have:=gK n.id (fun k=>eK n (iZ n k) k) n.peers.toNat
  unfold dU;omega
 ·obtain⟨j,hj,rfl⟩:=mS hq
  show ((n.log.drop (iZ n j)).take 5).length<=1048576
  simp;omega
theorem GL(W:World):NdM W aU aP:=⟨LRow.nil,LRow.nil,LRow.nil,LRow.nil⟩
end
section
open Go.RowKit
theorem uM(ty:TypeId)(g n cap:Nat)(ao:Option Addr)(c:Nat)(hnc:n<=cap)(w:World):(Builtin.append_ #[24,24] ty #[.slice (some ⟨g,0,none⟩) n cap,.slice ao 0 c]).run Tryz.prog w=.ok (.slice (some ⟨g,0,none⟩) n cap) w:=by
 obtain⟨i0,hi0,hz0,hz1,hz2⟩:=info_parts Tryz.infoEntry;cases ao<;>simp[Builtin.append_,run_underlying Tryz.underlying24,sizeOf,typeInfo,hi0,Builtin.lenOf,Builtin.firstCells,hnc,storeCells,loadCells,loadCellsFrom]
theorem pM{w:World}{o:Oper}{a:Act}{K:Act->World->Prop}{Q:Exit->Act->World->Prop}(s x:Operand)
  (ho:o.op=.call { callee:=.builtin .append,args:=#[s,x],argTypes:=#[24,24] })
  (base g0 n cap0:Nat) (xs:List Value) (hs:a.eval s=.slice (some ⟨g0,0,none⟩) n cap0) (hown:w.ownsRow base 47 2 (.slice (some ⟨g0,0,none⟩) n cap0) n xs)
  (ao:Option Addr) (m c:Nat) (T:Nat->Int) (X:Nat->ByteArray) (hx:a.eval x=.slice ao m c) (hr:NRow w ao m T X) (hm:n+m<=3000000) (hbase:base<=w.heap.size)
  (h:∀ g cap w',w'.ownsRow base 47 2 (.slice (some ⟨g,0,none⟩) (n+m) cap) (n+m) (xs++bT T X m)->Below base w w'->K (a.put o.dst (.slice (some ⟨g,0,none⟩) (n+m) cap)) w'):o.wp Tryz.prog a w K Q:=by
 have hg0:base<=g0/\n<=cap0:=by
  rcases hown.2 with ⟨e,_⟩|⟨g,cap,cur,e,h1,_,h2,_⟩
  ·cases e
  ·simp only[Value.slice.injEq,Option.some.injEq,Addr.mk.injEq,and_true,true_and]at e
   obtain⟨rfl,rfl⟩:=e;exact⟨h1,h2⟩
 by_cases hz:0<m
 ·obtain⟨b1,o1,rfl,_⟩:=hr 0 hz
  obtain⟨i0,hi0,hz0,hz1,hz2⟩:=info_parts Tryz.infoEntry;refine wp_append_lies w s x _ ho base 47 i0 _ 2 24 Tryz.underlying24 hi0 hz0 hz1 hz2 rfl (by omega) _ n xs hs hown ⟨b1,o1,none⟩ m c (bT T X m) hx (dC _ _ _) (NRow.news hr) (hZ _ _ _) hz (by unfold maxLen;omega) (by omega) hbase w.heap.size rfl ?_;intro g cap w' hown' hgrow _ _;exact h g cap w' hown' (S9 (b:=g0) hgrow hg0.1 hbase)
 ·obtain rfl:m=0:=by omega
  have hrun:=uM o.type g0 n cap0 ao c hg0.2 w;unfold Oper.wp execOp;simp only[ho,resolve,invoke,builtin,Sem.run_bind,Sem.run_pure,Result.andThen_ok,List.map_toArray,List.map_cons,List.map_nil,hs,hx,hrun];have e:xs++bT T X 0=xs:=by simp[bT]
  exact h g0 cap0 w (by rw[e];exact hown) (Below.refl _ _)
theorem fC{w:World}{ops:Array Oper}{rest:List Oper}{o:Oper}{a:Act}{Q:Exit->Act->World->Prop}(hgd:o.guard=none)(s x:Operand)
  (ho:o.op=.call { callee:=.builtin .append,args:=#[s,x],argTypes:=#[24,24] })
  (base g0 n cap0:Nat) (xs:List Value) (hs:a.eval s=.slice (some ⟨g0,0,none⟩) n cap0) (hown:w.ownsRow base 47 2 (.slice (some ⟨g0,0,none⟩) n cap0) n xs)
  (ao:Option Addr) (m c:Nat) (T:Nat->Int) (X:Nat->ByteArray) (hx:a.eval x=.slice ao m c) (hr:NRow w ao m T X) (hm:n+m<=3000000) (hbase:base<=w.heap.size)
  (h:∀ g cap w',w'.ownsRow base 47 2 (.slice (some ⟨g,0,none⟩) (n+m) cap) (n+m) (xs++bT T X m)->Below base w w'->wpList Tryz.prog ops Q rest (a.put o.dst (.slice (some ⟨g,0,none⟩) (n+m) cap)) w'):wpList Tryz.prog ops Q (o :: rest) a w:=
 wpList_plain hgd fun _ hK=>pM s x ho base g0 n cap0 xs hs hown ao m c T X hx hr hm hbase (fun g cap w' h1 h2=>hK _ _ (h g cap w' h1 h2))
end
section
open Go.RowKit Go.Maps
attribute [local go_sem ↓] Go.wp_at_zero Go.wp_at_succ
theorem I3{n:Nat}{T:Nat->Int}{X:Nat->ByteArray}{j m:Nat}{U:Nat->Int}{Y:Nat->ByteArray}(hl:eD n T X=true)(hj:j<=n):mD n T X (j:Int) m U Y=eD (mN n j m (iL n T j m U)) (mV m (iL n T j m U) j T U) (mV m (iL n T j m U) j X Y):=by
 unfold mD;rw[hl,decide_eq_true (show (0:Int)<=(j:Int) by omega),decide_eq_true (show (j:Int)<=(n:Int) by omega)];simp
end
section
open Go.RowKit
attribute [local go_sem ↓] Go.wp_at_zero Go.wp_at_succ
def MAnsO(w w':World)(e:Ending)(n:Nat)(T:Nat->Int)(X:Nat->ByteArray)(i:Int)(m:Nat)(U:Nat->Int)(Y:Nat->ByteArray):Prop:=
 ∃ ao cap,e=.returned (.tuple #[.slice ao (lB n T X i m U Y) cap,.bool (mD n T X i m U Y)])/\lB n T X i m U Y<=cap/\(mD n T X i m U Y=true->GOwn w' w.heap.size 47 2 ao (lB n T X i m U Y) cap (nr (mV m (iL n T i.toNat m U) i.toNat T U) (mV m (iL n T i.toNat m U) i.toNat X Y)))/\Below w.heap.size w w'
theorem MAnsO.no{w w':World}{n:Nat}{T:Nat->Int}{X:Nat->ByteArray}{i:Int}{m:Nat}{U:Nat->Int}{Y:Nat->ByteArray}{ao:Option Addr}{cap:Nat}(h:mD n T X i m U Y=false)(hb:Below w.heap.size w w'):MAnsO w w' (.returned (.tuple #[.slice ao 0 cap,.bool false])) n T X i m U Y:=by
 have hl:lB n T X i m U Y=0:=if_neg (by rw[h];simp);exact⟨ao,cap,by rw[hl,h],by omega,fun q=>(by rw[h]at q;cases q),hb⟩
theorem MAnsO.yes'{w w':World}{n:Nat}{T:Nat->Int}{X:Nat->ByteArray}{j:Nat}{m:Nat}{U:Nat->Int}{Y:Nat->ByteArray}{g cap N':Nat}{T':Nat->Int}{X':Nat->ByteArray}(h:mD n T X (j:Int) m U Y=true)
  (hN:mN n j m (iL n T j m U)=N') (hT:mV m (iL n T j m U) j T U=T') (hX:mV m (iL n T j m U) j X Y=X') (hg:w.heap.size<=g) (hc:N'<=cap) (hO:GOwn w' w.heap.size 47 2 (some ⟨g,0,none⟩) N' cap (nr T' X')) (hb:Below w.heap.size w w'):
  MAnsO w w' (.returned (.tuple #[.slice (some ⟨g,0,none⟩) N' cap,.bool true])) n T X (j:Int) m U Y:=by
 subst hN hT hX;have hl:lB n T X (j:Int) m U Y=mN n j m (iL n T j m U):=if_pos h;exact⟨some ⟨g,0,none⟩,cap,by rw[hl,h],by omega,fun _=>by rw[hl];exact hO,hb⟩
theorem uQ(ao:Option Addr)(n cap:Nat)(T:Nat->Int)(X:Nat->ByteArray)(i:Int)(bo:Option Addr)(m bcap:Nat)(U:Nat->Int)(Y:Nat->ByteArray)(hn:n<=1048576)(hc:n<=cap)(hm:m<=1048576)(hbc:m<=bcap)(hX:∀ k,k<n->(X k).size<=1048576)(hY:∀ k,k<m->(Y k).size<=1048576)(w:World)(hr:NRow w ao n T X)(hs:NRow w bo m U Y):
  Calls Tryz.prog 82 #[.slice ao n cap,.int .i64 i,.slice bo m bcap] w fun e w'=>MAnsO w w' e n T X i m U Y:=by
 have HL:=fun W h=>fO ao n cap T X (by omega) hX W h
 obtain⟨l,hl⟩:∃ l,eD n T X=l:=⟨_,rfl⟩
 rw[hl]at HL;cases l
 ·have hno:mD n T X i m U Y=false:=by unfold mD;rw[hl];rfl
  go_enter Tryz.func82,Tryz.ntmps82
  go_wp2_with fail
  refine (HL _ hr).mono ?_;rintro e w1 ⟨rfl,hb1⟩;go_wp2;refine bodyPost_ret (v:=.tuple #[.slice (some ⟨w1.heap.size,0,none⟩) 0 0,.bool false]) (by simp[results,Tryz.results82,go_sem]) rfl (MAnsO.no hno (hb1.alloc hb1.size _))
 have hn2:=(xB hl).1
 by_cases hi:i<0\/(n:Int)<i
 ·have hno:mD n T X i m U Y=false:=by
   unfold mD;rcases hi with h|h
   ·rw[decide_eq_false (show ¬ 0<=i by omega)];simp
   ·rw[decide_eq_false (show ¬ i<=(n:Int) by omega)];simp
  have hb:dD i 0 (n:Int)=false:=by simp[dD];omega
  have HI:∀ W,Calls Tryz.prog 40 #[.int .i64 i,.int .i64 0,.int .i64 (n:Int)] W fun e w'=>e=.returned (.bool false)/\w'=W:=fun W=>by rw[<-hb];exact cP _ _ _ _
  go_enter Tryz.func82,Tryz.ntmps82
  go_wp2_with fail
  refine (HL _ hr).mono ?_;rintro e w1 ⟨rfl,hb1⟩
  go_wp2_with (go_at_call 40;refine (HI _).mono ?_;rintro e w2 ⟨rfl,hq⟩;have hq':=hq.symm;subst hq';clear hq)
  refine bodyPost_ret (v:=.tuple #[.slice (some ⟨w1.heap.size,0,none⟩) 0 0,.bool false]) (by simp[results,Tryz.results82,go_sem]) rfl (MAnsO.no hno (hb1.alloc hb1.size _))
 obtain⟨j,rfl⟩:∃ j:Nat,i=j:=⟨i.toNat,by omega⟩
 have hj:j<=n:=by omega
 have hb:dD (j:Int) 0 (n:Int)=true:=by simp[dD];omega
 have HI:∀ W,Calls Tryz.prog 40 #[.int .i64 (j:Int),.int .i64 0,.int .i64 (n:Int)] W fun e w'=>e=.returned (.bool true)/\w'=W:=fun W=>by rw[<-hb];exact cP _ _ _ _
 go_enter Tryz.func82,Tryz.ntmps82
 go_wp2_with fail
 refine (HL _ hr).mono ?_;rintro e w1 ⟨rfl,hb1⟩
 go_wp2_with (go_at_call 40;refine (HI _).mono ?_;rintro e w2 ⟨rfl,hq⟩;have hq':=hq.symm;subst hq';clear hq)
 have hr1:=hr.below hb1 nl;have hs1:=hs.below hb1 nl;have HA:Hid (∀ k,k<=m->(∀ j',j'<k->M9 n T U j j'=true)->(k<m->M9 n T U j k=false)->iL n T j m U=k):=fun k h1 h2 h3=>CT h1 h2 h3
 go_loopw [9] (fun q wr=>∃ k:Nat,k<=m/\q=.int .i64 k/\(∀ j',j'<k->M9 n T U j j'=true)/\Below w1.heap.size w1 wr) (fun q _=>m-(intOf q).toNat)
 case atStart=>exact⟨0,Nat.zero_le _,rfl,fun j hj=>by omega,Below.refl _ _⟩
 case round=>
  obtain⟨k,hk,rfl,hat,hbel⟩:=hrel;have hjk1:IntKind.i64.wrap ((j:Int)+(k:Int))=(j:Int)+(k:Int):=wi
  have hq:∀ q,Below w1.heap.size w1 (wr.drewN q):=fun q=>below_drewN hbel q
  have hqw:∀ q,Below w.heap.size w (wr.drewN q):=fun q=>aF hb1 nl (hq q)
  have hsz:w.heap.size<=wr.heap.size:=Nat.le_trans hb1.size hbel.size
  by_cases hlt:k<m
  rotate_left
  ·have hkn:k=m:=by omega
   subst hkn;have hKm:=HA.out k nl hat (fun h=>by omega);have hok:mD n T X (j:Int) k U Y=true:=by rw[I3 hl hj,hKm,N1 (by omega),tL (by omega),tL (by omega)];exact hl
   have HF:Hid (∀ {w':World} {g cap:Nat},w.heap.size<=g->n<=cap->GOwn w' w.heap.size 47 2 (some ⟨g,0,none⟩) n cap (nr T X)->Below w.heap.size w w'->MAnsO w w' (.returned (.tuple #[.slice (some ⟨g,0,none⟩) n cap,.bool true])) n T X (j:Int) k U Y):=fun hg hc hO hb=>MAnsO.yes' hok (by rw[hKm,N1 (by omega)]) (by rw[hKm,tL (by omega)]) (by rw[hKm,tL (by omega)]) hg hc hO hb
   have HL2:=fun ao' cap' W h=>fO ao' n cap' T X (by omega) hX W h
   rw[hl]at HL2;clear hok hKm HA hat hs1
   go_wp2_with fail
   go_quiet (fail)
   go_wp2_with (first|(at_builtin;refine fC rfl _ _ rfl _ wr.heap.size 0 0 [] rfl (fA _) ao n cap T X rfl ((hr1.below (hq _) nl).alloc _) (by omega) (by simp) ?_;intro g cap' w2 hown2 hb2))
   simp only[Nat.zero_add,List.nil_append]at hown2 ⊢;have hcp2:=mW hown2;obtain⟨hN2,hg2⟩:=dQ hown2 rfl;have hG2:GOwn w2 w.heap.size 47 2 (some ⟨g,0,none⟩) n cap' (nr T X):=GOwn.from (show GOwn w2 wr.heap.size 47 2 (some ⟨g,0,none⟩) n cap' (nr T X) from hown2) hsz
   have hA2:Below w.heap.size w w2:=((hqw _).alloc (by simpa using hsz) _).trans (hb2.mono (by simpa using hsz));have hg3:w.heap.size<=g:=Nat.le_trans (by simpa using hsz) hg2;clear hown2 hb2 hg2
   go_wp2_with fail
   refine (HL2 _ _ _ (pB hN2)).mono ?_;rintro e w3 ⟨rfl,hb3⟩;go_wp2;exact bodyPost_ret (v:=.tuple #[.slice (some ⟨g,0,none⟩) n cap',.bool true]) (by simp[results,Tryz.results82,go_sem]) rfl (HF.out hg3 hcp2 (hG2.next hb3) (aF hA2 nl hb3))
  have hk9:(k:Int)<(m:Int):=by omega
  have hkn:j+k<=n:=by
   rcases Nat.eq_zero_or_pos k with h|h
   ·omega
   ·have:=of_decide_eq_true (hat (k-1) (by omega))
    omega
  obtain⟨b2,o2,hao2,e0,e1⟩:=(hs1.below hbel nl) k hlt;subst hao2
  by_cases hin:j+k<n
  rotate_left
  ·have hno:M9 n T U j k=false:=decide_eq_false (by omega)
   have hin':¬ (j:Int)+(k:Int)<(n:Int):=by omega
   have hin2:(n:Int)<=(j:Int)+(k:Int):=by omega
   have hin3:decide ((j:Int)+(k:Int)<(n:Int))=false:=decide_eq_false hin';have hKm:=HA.out k hk hat (fun _=>hno);have hok:=I3 (m:=m) (U:=U) (Y:=Y) hl hj;rw[hKm,nA hlt,iD hlt,iD hlt]at hok
   have hXX:∀ x,x<j+m->(nY k j X Y x).size<=1048576:=fun x hx=>by
    have:=X5 (m:=m) hj hkn hX hY x (by rw[nA hlt];exact hx)
    rwa [iD hlt]at this
   have HL2:=fun ao' cap' W h=>fO ao' (j+m) cap' (nY k j T U) (nY k j X Y) (by omega) hXX W h
   rw[<-hok]at HL2;have HF:Hid (∀ {w':World} {g cap:Nat},mD n T X (j:Int) m U Y=true->w.heap.size<=g->j+m<=cap->GOwn w' w.heap.size 47 2 (some ⟨g,0,none⟩) (j+m) cap (nr (nY k j T U) (nY k j X Y))->Below w.heap.size w w'->MAnsO w w' (.returned (.tuple #[.slice (some ⟨g,0,none⟩) (j+m) cap,.bool true])) n T X (j:Int) m U Y):=fun hy hg hc hO hb=>MAnsO.yes' hy (by rw[hKm,nA hlt]) (by rw[hKm,iD hlt]) (by rw[hKm,iD hlt]) hg hc hO hb
   have HNo:Hid (∀ {w':World} {ao:Option Addr} {cap:Nat},mD n T X (j:Int) m U Y=false->Below w.heap.size w w'->MAnsO w w' (.returned (.tuple #[.slice ao 0 cap,.bool false])) n T X (j:Int) m U Y):=fun h hb=>MAnsO.no h hb
   clear hok hKm HA hat hno;generalize mD n T X (j:Int) m U Y=q at HL2 HF HNo
   go_wp2_with fail
   go_quiet (fail)
   go_wp2_with (first|(at_builtin;refine fC rfl _ _ rfl _ wr.heap.size 0 0 [] rfl (fA _) ao n cap T X rfl ((hr1.below (hq _) nl).alloc _) (by omega) (by simp) ?_;intro g cap' w2 hown2 hb2))
   simp only[Nat.zero_add,List.nil_append]at hown2 ⊢;have hA2:Below w.heap.size w w2:=((hqw _).alloc (by simpa using hsz) _).trans (hb2.mono (by simpa using hsz));clear hown2 hb2;have f2:(0:Int)<=(j:Int)+(k:Int):=by omega
   have f3:(j:Int)+(k:Int)<=(cap:Int):=by omega
   have f4:((j:Int)+(k:Int)).toNat=j+k:=by omega
   have f5:k<=m:=by omega
   have f6:k<bcap:=by omega
   have hrk:=((hr.below hA2 nl).less hkn)
   have hsk:=NRow.drop (k:=k) (hs.below hA2 nl) (by omega)
   go_wp2_with fail
   refine wp_region_held_drew (S:=fun _=>True) (by kernel_rfl) trivial (fun _=>?_);refine tK 1 (some 60) (.slice ao n cap) rfl rfl trivial (fun w _=>by go_simp<;>first|omega|(rw[IntKind.wrap_i64];omega)) ?_;simp only[pS];refine tK 2 (some 61) (.int .i64 (j:Int)) rfl rfl trivial (fun w _=>by go_simp<;>first|omega|(rw[IntKind.wrap_i64];omega)) ?_;simp only[pS];refine tK 3 (some 62) (.int .i64 (k:Int)) rfl rfl trivial (fun w _=>by go_simp<;>first|omega|(rw[IntKind.wrap_i64];omega)) ?_;simp only[pS];refine tK 4 (some 63) (.int .i64 ((j:Int)+(k:Int))) rfl rfl trivial (fun w _=>by go_simp<;>first|omega|(rw[IntKind.wrap_i64];omega)) ?_;simp only[pS];refine tK 5 (some 64) (.slice ao (j+k) cap) rfl rfl trivial (fun w _=>by go_simp<;>first|omega|(rw[IntKind.wrap_i64];omega)) ?_;simp only[pS];refine tK 7 (some 66) (.slice (some ⟨b2,o2,none⟩) m bcap) rfl rfl trivial (fun w _=>by go_simp<;>first|omega|(rw[IntKind.wrap_i64];omega)) ?_;simp only[pS];refine tK 8 (some 67) (.int .i64 (k:Int)) rfl rfl trivial (fun w _=>by go_simp<;>first|omega|(rw[IntKind.wrap_i64];omega)) ?_;simp only[pS];refine tK 9 (some 68) (.slice (some ⟨b2,o2+k*2,none⟩) (m-k) (bcap-k)) rfl rfl trivial (fun w _=>by go_simp<;>first|omega|(rw[IntKind.wrap_i64];omega)) ?_;simp only[pS];refine cZ 0 _ rfl (by kernel_rfl) (by rfl) ?_;go_simp;refine cZ 6 _ rfl (by kernel_rfl) (by rfl) ?_;refine pM _ _ rfl _ w2.heap.size 0 0 [] rfl (fA w2) ao (j+k) cap T X rfl (hrk.alloc _) (by omega) (by simp) ?_;intro g3 cap3 w3 hown3 hb3;simp only[Nat.zero_add,List.nil_append]at hown3 ⊢;have hb23:Below w2.heap.size w2 w3:=(((Below.refl _ _).alloc nl _).drew).trans hb3;refine⟨trivial,?_⟩;refine cZ 10 _ rfl (by kernel_rfl) (by rfl) ?_;refine pM _ _ rfl _ g3 (j+k) cap3 (bT T X (j+k)) rfl hown3 (some ⟨b2,o2+k*2,none⟩) (m-k) (bcap-k) (fun x=>U (k+x)) (fun x=>Y (k+x)) rfl (hsk.below hb23 nl) (by omega) hb23.size ?_;intro g4 cap4 w4 hown4 hb4;refine⟨trivial,?_⟩;have hs9:j+k+(m-k)=j+m:=by omega
   rw[hs9]at hown4 ⊢
   have e4:bT T X (j+k)++bT (fun x=>U (k+x)) (fun x=>Y (k+x)) (m-k)=bT (nY k j T U) (nY k j X Y) (j+m):=(by
    rw[<-hs9];refine lR _ _ (fun x hx=>⟨if_pos hx,if_pos hx⟩) (fun x hx=>?_);have hx1:¬ j+k+x<j+k:=by omega
    have hy1:j+k+x-j=k+x:=by omega
    unfold nY;rw[if_neg hx1,if_neg hx1,hy1]
    exact⟨rfl,rfl⟩)
   have hN4:=dQ (T:=nY k j T U) (X:=nY k j X Y) hown4 e4;have hG4:GOwn w4 w.heap.size 47 2 (some ⟨g4,0,none⟩) (j+m) cap4 (nr (nY k j T U) (nY k j X Y)):=GOwn.from (by rw[e4]at hown4;exact hown4) hA2.size
   have hcp4:=mW hown4;have hA4:Below w.heap.size w w4:=aF hA2 nl (hb23.trans hb4);have hg4:w.heap.size<=g4:=Nat.le_trans hA2.size hN4.2;refine tK 11 (some 10) (.slice (some ⟨g4,0,none⟩) (j+m) cap4) rfl rfl trivial (fun w _=>by go_simp) ?_;simp only[pS];refine wpAnyH_done (by kernel_rfl) ?_ _;clear hown3 hown4 hb3 hb4 hb23
   go_wp2_with fail
   refine (HL2 _ _ _ (pB hN4.1)).mono ?_;rintro e w5 ⟨rfl,hb5⟩;have hA5:=aF hA4 nl hb5;cases q
   ·go_wp2
    exact bodyPost_ret (v:=.tuple #[.slice (some ⟨w5.heap.size,0,none⟩) 0 0,.bool false]) (by simp[results,Tryz.results82,go_sem]) rfl (HNo.out trivial (hA5.alloc hA5.size _))
   ·go_wp2
    exact bodyPost_ret (v:=.tuple #[.slice (some ⟨g4,0,none⟩) (j+m) cap4,.bool true]) (by simp[results,Tryz.results82,go_sem]) rfl (HF.out trivial hg4 hcp4 (hG4.next hb5) hA5)
  have hin':(j:Int)+(k:Int)<(n:Int):=by omega
  obtain⟨b1,o1,hao1,d0,d1⟩:=(hr1.below hbel nl) (j+k) hin;subst hao1;have f0:(0:Int)<=(j:Int)+(k:Int):=by omega
  have f1:((j:Int)+(k:Int)).toNat=j+k:=by omega
  by_cases hTT:T (j+k)=U k
  ·have hyes:M9 n T U j k=true:=decide_eq_true ⟨hin,hTT⟩
   go_wp2_with fail
   go_quiet (fail)
   go_wp2
   go_roundw
   case rel=>
    refine⟨k+1,by omega,by go_num,fun j' hj'=>?_,hq _⟩
    by_cases e:j'=k
    ·subst e;exact hyes
    ·exact hat j' (by omega)
   case measure=>simp[intOf];omega
  ·have hno:M9 n T U j k=false:=decide_eq_false (fun h=>hTT h.2)
   have hKm:=HA.out k hk hat (fun _=>hno);have hok:=I3 (m:=m) (U:=U) (Y:=Y) hl hj;rw[hKm,nA hlt,iD hlt,iD hlt]at hok
   have hXX:∀ x,x<j+m->(nY k j X Y x).size<=1048576:=fun x hx=>by
    have:=X5 (m:=m) hj hkn hX hY x (by rw[nA hlt];exact hx)
    rwa [iD hlt]at this
   have HL2:=fun ao' cap' W h=>fO ao' (j+m) cap' (nY k j T U) (nY k j X Y) (by omega) hXX W h
   rw[<-hok]at HL2;have HF:Hid (∀ {w':World} {g cap:Nat},mD n T X (j:Int) m U Y=true->w.heap.size<=g->j+m<=cap->GOwn w' w.heap.size 47 2 (some ⟨g,0,none⟩) (j+m) cap (nr (nY k j T U) (nY k j X Y))->Below w.heap.size w w'->MAnsO w w' (.returned (.tuple #[.slice (some ⟨g,0,none⟩) (j+m) cap,.bool true])) n T X (j:Int) m U Y):=fun hy hg hc hO hb=>MAnsO.yes' hy (by rw[hKm,nA hlt]) (by rw[hKm,iD hlt]) (by rw[hKm,iD hlt]) hg hc hO hb
   have HNo:Hid (∀ {w':World} {ao:Option Addr} {cap:Nat},mD n T X (j:Int) m U Y=false->Below w.heap.size w w'->MAnsO w w' (.returned (.tuple #[.slice ao 0 cap,.bool false])) n T X (j:Int) m U Y):=fun h hb=>MAnsO.no h hb
   clear hok hKm HA hat hno;generalize mD n T X (j:Int) m U Y=q at HL2 HF HNo
   go_wp2_with fail
   go_quiet (fail)
   go_wp2_with (first|(at_builtin;refine fC rfl _ _ rfl _ wr.heap.size 0 0 [] rfl (fA _) (some ⟨b1,o1,none⟩) n cap T X rfl ((hr1.below (hq _) nl).alloc _) (by omega) (by simp) ?_;intro g cap' w2 hown2 hb2))
   simp only[Nat.zero_add,List.nil_append]at hown2 ⊢;have hA2:Below w.heap.size w w2:=((hqw _).alloc (by simpa using hsz) _).trans (hb2.mono (by simpa using hsz));clear hown2 hb2;have f2:(0:Int)<=(j:Int)+(k:Int):=by omega
   have f3:(j:Int)+(k:Int)<=(cap:Int):=by omega
   have f4:((j:Int)+(k:Int)).toNat=j+k:=by omega
   have f5:k<=m:=by omega
   have f6:k<bcap:=by omega
   have hrk:=((hr.below hA2 nl).less hkn)
   have hsk:=NRow.drop (k:=k) (hs.below hA2 nl) (by omega)
   go_wp2_with fail
   refine wp_region_held_drew (S:=fun _=>True) (by kernel_rfl) trivial (fun _=>?_);refine tK 1 (some 60) (.slice (some ⟨b1,o1,none⟩) n cap) rfl rfl trivial (fun w _=>by go_simp<;>first|omega|(rw[IntKind.wrap_i64];omega)) ?_;simp only[pS];refine tK 2 (some 61) (.int .i64 (j:Int)) rfl rfl trivial (fun w _=>by go_simp<;>first|omega|(rw[IntKind.wrap_i64];omega)) ?_;simp only[pS];refine tK 3 (some 62) (.int .i64 (k:Int)) rfl rfl trivial (fun w _=>by go_simp<;>first|omega|(rw[IntKind.wrap_i64];omega)) ?_;simp only[pS];refine tK 4 (some 63) (.int .i64 ((j:Int)+(k:Int))) rfl rfl trivial (fun w _=>by go_simp<;>first|omega|(rw[IntKind.wrap_i64];omega)) ?_;simp only[pS];refine tK 5 (some 64) (.slice (some ⟨b1,o1,none⟩) (j+k) cap) rfl rfl trivial (fun w _=>by go_simp<;>first|omega|(rw[IntKind.wrap_i64];omega)) ?_;simp only[pS];refine tK 7 (some 66) (.slice (some ⟨b2,o2,none⟩) m bcap) rfl rfl trivial (fun w _=>by go_simp<;>first|omega|(rw[IntKind.wrap_i64];omega)) ?_;simp only[pS];refine tK 8 (some 67) (.int .i64 (k:Int)) rfl rfl trivial (fun w _=>by go_simp<;>first|omega|(rw[IntKind.wrap_i64];omega)) ?_;simp only[pS];refine tK 9 (some 68) (.slice (some ⟨b2,o2+k*2,none⟩) (m-k) (bcap-k)) rfl rfl trivial (fun w _=>by go_simp<;>first|omega|(rw[IntKind.wrap_i64];omega)) ?_;simp only[pS];refine cZ 0 _ rfl (by kernel_rfl) (by rfl) ?_;go_simp;refine cZ 6 _ rfl (by kernel_rfl) (by rfl) ?_;refine pM _ _ rfl _ w2.heap.size 0 0 [] rfl (fA w2) (some ⟨b1,o1,none⟩) (j+k) cap T X rfl (hrk.alloc _) (by omega) (by simp) ?_;intro g3 cap3 w3 hown3 hb3;simp only[Nat.zero_add,List.nil_append]at hown3 ⊢;have hb23:Below w2.heap.size w2 w3:=(((Below.refl _ _).alloc nl _).drew).trans hb3;refine⟨trivial,?_⟩;refine cZ 10 _ rfl (by kernel_rfl) (by rfl) ?_;refine pM _ _ rfl _ g3 (j+k) cap3 (bT T X (j+k)) rfl hown3 (some ⟨b2,o2+k*2,none⟩) (m-k) (bcap-k) (fun x=>U (k+x)) (fun x=>Y (k+x)) rfl (hsk.below hb23 nl) (by omega) hb23.size ?_;intro g4 cap4 w4 hown4 hb4;refine⟨trivial,?_⟩;have hs9:j+k+(m-k)=j+m:=by omega
   rw[hs9]at hown4 ⊢
   have e4:bT T X (j+k)++bT (fun x=>U (k+x)) (fun x=>Y (k+x)) (m-k)=bT (nY k j T U) (nY k j X Y) (j+m):=(by
    rw[<-hs9];refine lR _ _ (fun x hx=>⟨if_pos hx,if_pos hx⟩) (fun x hx=>?_);have hx1:¬ j+k+x<j+k:=by omega
    have hy1:j+k+x-j=k+x:=by omega
    unfold nY;rw[if_neg hx1,if_neg hx1,hy1]
    exact⟨rfl,rfl⟩)
   have hN4:=dQ (T:=nY k j T U) (X:=nY k j X Y) hown4 e4;have hG4:GOwn w4 w.heap.size 47 2 (some ⟨g4,0,none⟩) (j+m) cap4 (nr (nY k j T U) (nY k j X Y)):=GOwn.from (by rw[e4]at hown4;exact hown4) hA2.size
   have hcp4:=mW hown4;have hA4:Below w.heap.size w w4:=aF hA2 nl (hb23.trans hb4);have hg4:w.heap.size<=g4:=Nat.le_trans hA2.size hN4.2;refine tK 11 (some 10) (.slice (some ⟨g4,0,none⟩) (j+m) cap4) rfl rfl trivial (fun w _=>by go_simp) ?_;simp only[pS];refine wpAnyH_done (by kernel_rfl) ?_ _;clear hown3 hown4 hb3 hb4 hb23
   go_wp2_with fail
   refine (HL2 _ _ _ (pB hN4.1)).mono ?_;rintro e w5 ⟨rfl,hb5⟩;have hA5:=aF hA4 nl hb5;cases q
   ·go_wp2
    exact bodyPost_ret (v:=.tuple #[.slice (some ⟨w5.heap.size,0,none⟩) 0 0,.bool false]) (by simp[results,Tryz.results82,go_sem]) rfl (HNo.out trivial (hA5.alloc hA5.size _))
   ·go_wp2
    exact bodyPost_ret (v:=.tuple #[.slice (some ⟨g4,0,none⟩) (j+m) cap4,.bool true]) (by simp[results,Tryz.results82,go_sem]) rfl (HF.out trivial hg4 hcp4 (hG4.next hb5) hA5)
theorem zJ(ao:Option Addr)(n cap:Nat)(T:Nat->Int)(X:Nat->ByteArray)(i t:Int)(hn:n<=9223372036854775807)(w:World)(hr:NRow w ao n T X):
  Calls Tryz.prog 81 #[.slice ao n cap,.int .i64 i,.int .i64 t] w fun e w'=>e=.returned (.bool (jQ n T i t))/\w'=w:=by
 by_cases h0:i=0
 ·subst h0
  have hf:jQ n T 0 t=decide (t=0):=by
   unfold jQ dR;simp;exact eq_comm
  rw[hf];go_enter Tryz.func81,Tryz.ntmps81;go_wp2;go_ret;exact⟨by simp;by_cases h9:t=0<;>simp[h9],rfl⟩
 by_cases h1:1<=i/\i<=n
 ·obtain⟨k,rfl⟩:∃ k:Nat,i=(k:Int)+1:=⟨(i-1).toNat,by omega⟩
  have hf:jQ n T ((k:Int)+1) t=decide (T k=t):=by
   have e:((k:Int)+1).toNat=k+1:=by omega
   unfold jQ dR;rw[e,if_neg (by omega)];simp only[Nat.add_sub_cancel];have h9:(0:Int)<=(k:Int)+1:=by omega
   simp[h9,h1.2]
  rw[hf];obtain⟨b,o,rfl,c0,c1⟩:=hr k (by omega);have hb:dD ((k:Int)+1) 1 (n:Int)=true:=by simp[dD];omega
  have hk1:(k:Int)<(n:Int):=by omega
  have hk2:(k:Int)+1-1=(k:Int):=by omega
  have hk3:IntKind.i64.wrap ((k:Int)+1-1)=(k:Int):=wi
  have hk4:¬ ((k:Int)+1=0):=by omega
  have HI:∀ W,Calls Tryz.prog 40 #[.int .i64 ((k:Int)+1),.int .i64 1,.int .i64 (n:Int)] W fun e w'=>e=.returned (.bool true)/\w'=W:=fun W=>by rw[<-hb];exact cP _ _ _ _
  go_enter Tryz.func81,Tryz.ntmps81
  go_wp2_with (go_at_call 40;refine (HI _).mono ?_;rintro e w1 ⟨rfl,hq⟩;have hq':=hq.symm;subst hq';clear hq)
  go_ret;exact⟨by simp;by_cases h9:T k=t<;>simp[h9],rfl⟩
 ·have hf:jQ n T i t=false:=decide_eq_false (by omega)
  rw[hf];have hb:dD i 1 (n:Int)=false:=by simp[dD];omega
  have HI:∀ W,Calls Tryz.prog 40 #[.int .i64 i,.int .i64 1,.int .i64 (n:Int)] W fun e w'=>e=.returned (.bool false)/\w'=W:=fun W=>by rw[<-hb];exact cP _ _ _ _
  go_enter Tryz.func81,Tryz.ntmps81
  go_wp2_with (go_at_call 40;refine (HI _).mono ?_;rintro e w1 ⟨rfl,hq⟩;have hq':=hq.symm;subst hq';clear hq)
  go_ret;exact⟨rfl,rfl⟩
theorem oW(ao:Option Addr)(n cap:Nat)(T:Nat->Int)(X:Nat->ByteArray)(i t:Int)(hn:n<=9223372036854775807)(w:World)(hr:NRow w ao n T X):
  Calls Tryz.prog 80 #[.slice ao n cap,.int .i64 i,.int .i64 t] w fun e w'=>e=.returned (.bool (zZ n T i t))/\w'=w:=by
 unfold zZ;generalize hL:dR n T=l;have H:=fun W h=>qM ao n cap T X hn W h
 rw[hL]at H
 by_cases h1:l<t
 ·go_enter Tryz.func80,Tryz.ntmps80
  go_wp2_with (go_at_call 43;refine (H _ hr).mono ?_;rintro e w1 ⟨rfl,rfl⟩)
  go_ret;exact⟨by simp[h1],rfl⟩
 by_cases h2:t=l
 ·subst h2
  go_enter Tryz.func80,Tryz.ntmps80
  go_wp2_with (go_at_call 43;refine (H _ hr).mono ?_;rintro e w1 ⟨rfl,rfl⟩)
  go_ret;exact⟨by simp,rfl⟩
 ·go_enter Tryz.func80,Tryz.ntmps80
  go_wp2_with (go_at_call 43;refine (H _ hr).mono ?_;rintro e w1 ⟨rfl,rfl⟩)
  go_ret;exact⟨by simp[h1,h2],rfl⟩
end
section
open Go
def CX:List Oper->Nat->Bool
 | [],_=>true
 | o :: r,q=>(o.dst==some q)&&CX r (q+1)
def yU(v:Nat->Value):Nat->Nat->List Value
 | _,0=>[]
 | i,n+1=>v i :: yU v (i+1) n
theorem oR{α : Type}:∀ (l:List α) (q:Nat) (x:α),q<l.length->(l.set q x).take (q+1)=l.take q++[x]
 | [],q,x,h=>by simp at h
 | a :: r,0,x,h=>by simp
 | a :: r,q+1,x,h=>by
  have:=oR r q x (by simpa using h);simp only[ss,List.take_succ_cons,List.cons_append];rw[this]
theorem oS{α : Type}:∀ (l:List α) (q k:Nat) (x:α),(l.set q x).drop (q+1+k)=l.drop (q+1+k)
 | [],q,k,x=>by simp
 | a :: r,0,k,x=>by
  have e:0+1+k=k+1:=by omega
  rw[e];simp
 | a :: r,q+1,k,x=>by
  have:=oS r q k x;have e:q+1+1+k=q+1+k+1:=by omega
  rw[e];simp only[ss,List.drop_succ_cons];exact this
theorem mF(v:Nat->Value):∀ (l:List Oper) (i q:Nat) (a:Act),CX l q=true->q+l.length<=a.tmps.size->bF v i l a=⟨(a.tmps.toList.take q++(yU v i l.length++a.tmps.toList.drop (q+l.length))).toArray,a.defers⟩
 | [],i,q,a,_,h=>by
  simp only[bF,yU,List.length_nil,Nat.add_zero,List.nil_append,List.take_append_drop]
 | o :: r,i,q,a,hs,h=>by
  simp only[CX,Bool.and_eq_true,beq_iff_eq]at hs;have hq:q<a.tmps.size:=by simp at h;omega
  have ih:=mF v r (i+1) (q+1) (a.put o.dst (v i)) hs.2 (by simp only[Act.put,hs.1,Array.size_setIfInBounds];simp at h;omega);simp only[bF];rw[ih];simp only[Act.put,hs.1,Array.toList_setIfInBounds];rw[oR _ _ _ (by simpa using hq),oS];simp only[yU,List.length_cons,List.append_assoc,List.cons_append,List.nil_append];have e:q+1+r.length=q+(r.length+1):=by omega
  rw[e]
end
section
open Go Go.RowKit
attribute [local go_sem ↓] Go.wp_at_zero Go.wp_at_succ
theorem uH(n:Nd)(s:NdS)(hz:NdZ n s)(m:Ms)(eo:Option Addr)(ec:Nat)(hmz:MsZ m)(hB:bY n=true)(hix:-9223372036854775808<=m.index/\m.index<=9223372036854775807)(base:Nat)(w:World)(hbs:base<=w.heap.size)(hO:NdO w base n s)(hE:MsM w m eo ec)(hk:m.kind=1)(hF:gV n m=true):Calls Tryz.prog 37 #[aX n s,eS m eo ec] w fun e w'=>ED base (gE (rc1 n m) m) (iQ (rc1 n m) m) w w' e:=by
 have hpe:=dW hB;replace hk:Hid (m.kind=1):=hk;have hb:=rt _ _ _ (rt _ _ _ (ra w (.cells (aJ n s).toArray 27)) (ra _ (.cells (bZ m eo ec).toArray 29))) (ra _ (.cells (aJ aU aP).toArray 27));have vA:NdB _ w.heap.size n s:=((aH w n s).next (ra _ (.cells (bZ m eo ec).toArray 29))).next (ra _ (.cells (aJ aU aP).toArray 27));have vM:MsB _ (w.alloc (.cells (aJ n s).toArray 27)).heap.size m eo ec:=(bJ (w.alloc (.cells (aJ n s).toArray 27)) m eo ec).next (ra _ (.cells (aJ aU aP).toArray 27));have vR:=aH ((w.alloc (.cells (aJ n s).toArray 27)).alloc (.cells (bZ m eo ec).toArray 29)) aU aP;rw[World.size_alloc]at vM;rw[World.size_alloc,World.size_alloc]at vR;have HE:Hid (∀ W,Ch base w W->LRow w 47 eo (dZ m.ents)->True):=fun _ _ _=>trivial
 replace hO:=hO.next hb;have hEn:=hE.e.next hb;have hEc:=hE.c;clear HE hE;go_enter Tryz.func37,Tryz.ntmps37;refine aW fun K0 hK0=>?_
 go_wp2;refine hK0.out _ _ ?_;clear hK0;generalize (((w.alloc _).alloc _).alloc _)=W at hb vA vM vR hO hEn ⊢;have hal:=ra W (.cells #[] 29);have hN0:GOwn (W.alloc (.cells #[] 29)) w.heap.size 29 9 (some ⟨W.heap.size,0,none⟩) 0 0 (lf (jV [])):=GOwn.from (GOwn.empty W 29 9 _) hb.size
 replace hb:=rt _ _ _ hb hal;replace vA:=vn vA hal;replace vM:=vn vM hal;replace vR:=vn vR hal;replace hO:=hO.next hal;replace hEn:=hEn.next hal;clear hal;obtain⟨f0,f1,f2,f3,f4,f5,f6,f7,f8,f9⟩:=cN vA;obtain⟨g0,g1,g2,g3,g4,g5,g6,g7,g8⟩:=cM vM
 go_wp2_with fail
 generalize W.heap.size=e0 at hN0 ⊢;generalize (W.alloc _)=W1 at hN0 hb vA vM vR hO hEn f0 f1 f2 f3 f4 f5 f6 f7 f8 f9 g0 g1 g2 g3 g4 g5 g6 g7 g8 ⊢;refine (gO n s m eo ec ⟨hpe.1,hpe.2.1⟩ hmz.l hmz.x _ hEn).mono ?_;rintro e w1 ⟨rfl,hb1⟩;replace hb:=rt _ _ _ hb hb1;replace vA:NdB w1 w.heap.size n s:=vn vA hb1;replace vM:MsB w1 (w.heap.size+1) m eo ec:=vn vM hb1;replace vR:NdB w1 (w.heap.size+1+1) aU aP:=vn vR hb1;replace hN0:=GOwn.next hN0 hb1;replace hO:=hO.next hb1;replace hEn:=hEn.next hb1;clear hb1 f0 f1 f2 f3 f4 f5 f6 f7 f8 f9 g0 g1 g2 g3 g4 g5 g6 g7 g8;have hC:Ch base w w1:=Ch.of_rb hb;have hwsz:w.heap.size+1+1<w1.heap.size:=vR.lt;clear hb;rw[hF];have hff:=hF;simp only[gV,Bool.and_eq_true]at hff
 have hfr:0<=m.frm/\m.frm<n.peers:=by
  have:=hff.2.2.1;simpa[dS] using this
 have hmt:1<=m.term/\m.term<=100000:=⟨of_decide_eq_true hff.2.2.2.2.2.1,of_decide_eq_true hff.2.2.2.2.2.2.1⟩
 clear hff hF;obtain⟨f0,f1,f2,f3,f4,f5,f6,f7,f8,f9⟩:=cN vA;obtain⟨g0,g1,g2,g3,g4,g5,g6,g7,g8⟩:=cM vM
 go_upto_if 30 with fail
 go_cut [] from 19 to 32 (fun wc=>∃ N s2,NdB wc w.heap.size N s2/\MsB wc (w.heap.size+1) m eo ec/\NdB wc (w.heap.size+1+1) aU aP/\NdO wc base N s2/\GOwn wc w.heap.size 29 9 (some ⟨e0,0,none⟩) 0 0 (lf (jV []))/\Ch base w wc/\LRow wc 47 eo (dZ m.ents)/\rc1 n m=N/\NkR N/\NdZ N s2/\N.peers=n.peers)
 case first=>
  by_cases hup:n.term<m.term
  ·have hrc:rc1 n m=(lJ n m.term):=if_pos hup
   go_wp2_with (first|((with_reducible refine wN 2 (.tmp 33) (.tmp 32) (w.heap.size) 2 (.int .i64 m.term) ((⟨n.id,n.peers,m.term,n.vote,n.log,n.role,n.commit,n.votes,n.next,n.mat⟩:Nd)) (s) vA ?_);intro Wa va ga)|((with_reducible refine cG rfl 2 (.tmp 34) (.const (.int .i64 (-1))) rfl rfl (w.heap.size) 3 (.int .i64 (-1)) (by simp[go_sem]) (by simp[go_sem]) ((⟨n.id,n.peers,m.term,-1,n.log,n.role,n.commit,n.votes,n.next,n.mat⟩:Nd)) (s) va (by omega) (by kernel_rfl) (by kernel_rfl) (dT (by kernel_rfl)) (by kernel_rfl) ?_);intro Wb vb gb)|fail)
   clear f0 f1 f2 f3 f4 f5 f6 f7 f8 f9 g0 g1 g2 g3 g4 g5 g6 g7 g8;have hOb:=(hO.gr ga (bA vA) (by decide) (by decide)).gr gb (bA va) (by decide) (by decide);have vMb:MsB Wb (w.heap.size+1) m eo ec:=VHas.grown (VHas.grown vM ga (fun e=>by have:=oI e;omega)) gb (fun e=>by have:=oI e;omega);have vRb:NdB Wb (w.heap.size+1+1) aU aP:=VHas.grown (VHas.grown vR ga (fun e=>by have:=oI e;omega)) gb (fun e=>by have:=oI e;omega);have hNb:=GOwn.gr (GOwn.gr hN0 ga (bA vA) (by decide)) gb (bA va) (by decide);have hEb:=(hEn.gr ga (bA vA) (by decide)).gr gb (bA va) (by decide);have hCb:=(hC.box ga nl).box gb nl;have hO2:NdO Wb base (⟨n.id,n.peers,m.term,-1,n.log,n.role,n.commit,n.votes,n.next,n.mat⟩:Nd) s:=⟨hOb.l,hOb.v,hOb.x,hOb.m,hOb.vx,hOb.vm,hOb.xm⟩
   clear hO vM vR hN0 hEn hC ga vA va hOb;refine (fB (⟨n.id,n.peers,m.term,-1,n.log,n.role,n.commit,n.votes,n.next,n.mat⟩:Nd) s w.heap.size base _ (Nat.le_trans hbs hCb.size) vb hO2).mono ?_;rintro e w2 ⟨rfl,s2,vA,hO,gA⟩;have eU:bV (⟨n.id,n.peers,m.term,-1,n.log,n.role,n.commit,n.votes,n.next,n.mat⟩:Nd)=(lJ n m.term):=rfl;rw[eU]at vA hO;have vM:MsB w2 (w.heap.size+1) m eo ec:=VHas.grown vMb gA (fun e=>by have:=oI e;omega);have vR:NdB w2 (w.heap.size+1+1) aU aP:=VHas.grown vRb gA (fun e=>by have:=oI e;omega);have hN0:=GOwn.gr hNb gA (bA vb) (by decide);have hEn:=hEb.gr gA (bA vb) (by decide);have hC:=hCb.box gA nl;have hzU:=sF (kK hB hmt) hO hz.l hz.tx (by simp[lJ]) (by simp[lJ]) (by simp[lJ]);clear vMb vRb hNb hEb hCb hO2 vb gb gA hup eU;go_wp2
   go_meet
   case rel=>exact⟨(lJ n m.term),s2,vA,vM,vR,hO,hN0,hC,hEn,hrc,kK hB hmt,hzU,rfl⟩
  ·go_wp2
   go_meet
   case rel=>exact⟨n,s,vA,vM,vR,hO,hN0,hC,hEn,if_neg (by omega),pZ hB,hz,rfl⟩
 case rest=>
  clear vA vM vR hO hN0 hC hEn hwsz f0 f1 f2 f3 f4 f5 f6 f7 f8 f9 g0 g1 g2 g3 g4 g5 g6 g7 g8;obtain⟨N,s2,vA,vM,vR,hO,hN0,hC,hEn,hrc,hBN,hzN,hNp⟩:=hcut;have hwsz:w.heap.size+1+1<wc.heap.size:=vR.lt;replace hrc:Hid (rc1 n m=N):=hrc;replace hBN:Hid (NkR N):=hBN;replace hNp:Hid (N.peers=n.peers):=hNp;obtain⟨lo,lc,vo,vc,no,nc,mo,mc⟩:=s2;obtain⟨f0,f1,f2,f3,f4,f5,f6,f7,f8,f9⟩:=cN vA;obtain⟨g0,g1,g2,g3,g4,g5,g6,g7,g8⟩:=cM vM;have hal:=ra wc (.cells (bZ gW none 0).toArray 29);have h0:RS w base wc.heap.size e0 N ⟨lo,lc,vo,vc,no,nc,mo,mc⟩ m eo ec gW (wc.alloc (.cells (bZ gW none 0).toArray 29)):=⟨vn vA hal,vn vM hal,vn vR hal,bJ wc gW none 0,hO.next hal,GOwn.next hN0 hal,hC.trans (Ch.of_rb hal),vR.lt,(GOwn.at hN0 rfl).2⟩
  replace hEn:=hEn.next hal;clear hal vA vM vR hN0 hC hO
  go_upto_if 48 with (first|((with_reducible refine wB 29 (.tmp 8) (.tmp 45) wc.heap.size (bZ (⟨0,N.term,N.id,m.frm,0,0,[],0,false⟩:Ms) none 0) h0.q ?_);intro W2 vQ2 gQ;have h1:RS w base wc.heap.size e0 N ⟨lo,lc,vo,vc,no,nc,mo,mc⟩ m eo ec (⟨0,N.term,N.id,m.frm,0,0,[],0,false⟩:Ms) W2:=h0.putQ vQ2 gQ;have hEn1:=hEn.gr gQ (fun x e=>by cases e;exact h0.q.typed) (by decide);clear f0 f1 f2 f3 f4 f5 f6 f7 f8 f9 g0 g1 g2 g3 g4 g5 g6 g7 g8 gQ vQ2;obtain⟨f0,f1,f2,f3,f4,f5,f6,f7,f8,f9⟩:=cN h1.a;obtain⟨g0,g1,g2,g3,g4,g5,g6,g7,g8⟩:=cM h1.m)|fail)
  generalize wc.heap.size=qb at h1 hwsz ⊢;clear h0 hEn
  have k1:(m.kind==1)=true:=by rw[hk.out];rfl
  go_upto_region 13 with (first|((with_reducible refine wM 2 (.tmp 50) (.const (.int .i64 2)) (qb) 0 (.int .i64 2) ((⟨2,N.term,N.id,m.frm,0,0,[],0,false⟩:Ms)) h1.q ?_);intro W3 vQ3 gQ;have h2:=h1.putQ vQ3 gQ;clear f0 f1 f2 f3 f4 f5 f6 f7 f8 f9 g0 g1 g2 g3 g4 g5 g6 g7 g8 gQ vQ3;obtain⟨f0,f1,f2,f3,f4,f5,f6,f7,f8,f9⟩:=cN h2.a;obtain⟨g0,g1,g2,g3,g4,g5,g6,g7,g8⟩:=cM h2.m)|fail)
  clear k1
  go_cut [48,49,76] from 50 to 51 (fun _ _ x wz=>x=.bool (tV N m)/\wz=W3)
  case first=>
   clear hk;rcases bq (m.term==N.term) with b1|b1
   rotate_left
   ·have hvB:tV N m=false:=by simp[tV,b1]
    go_wp2
    go_meet
    case rel=>exact⟨by rw[hvB],rfl⟩
   rcases bq (N.vote == -1) with b2|b2
   ·go_wp2_with fail
    refine (oW lo N.log.length lc (cL N.log) (cS N.log) m.index m.lterm (by have:=hzN.l;omega) _ h2.o.M.l.n).mono ?_;rintro e w4 ⟨rfl,hw4⟩;replace hw4:=hw4.symm;subst hw4;have hvB:tV N m=zZ N.log.length (cL N.log) m.index m.lterm:=by simp[tV,b1,b2]
    go_wp2
    go_meet
    case rel=>exact⟨by rw[hvB],rfl⟩
   rcases bq (N.vote==m.frm) with b3|b3
   rotate_left
   ·have hvB:tV N m=false:=by simp[tV,b2,b3]
    go_wp2
    go_meet
    case rel=>exact⟨by rw[hvB],rfl⟩
   go_wp2_with fail
   refine (oW lo N.log.length lc (cL N.log) (cS N.log) m.index m.lterm (by have:=hzN.l;omega) _ h2.o.M.l.n).mono ?_;rintro e w4 ⟨rfl,hw4⟩;replace hw4:=hw4.symm;subst hw4;have hvB:tV N m=zZ N.log.length (cL N.log) m.index m.lterm:=by simp[tV,b1,b2,b3]
   go_wp2
   go_meet
   case rel=>exact⟨by rw[hvB],rfl⟩
  case rest=>
   obtain⟨rfl,rfl⟩:=hcut;have HN:gE (rc1 n m) m=if tV N m=true then (⟨N.id,N.peers,N.term,m.frm,N.log,N.role,N.commit,N.votes,N.next,N.mat⟩:Nd) else N:=by rw[hrc.out];simp[gE,hk.out,rK]
   have HL:iQ (rc1 n m) m=if tV N m=true then [(⟨2,N.term,N.id,m.frm,0,0,[],0,true⟩:Ms)] else [(⟨2,N.term,N.id,m.frm,0,0,[],0,false⟩:Ms)]:=by rw[hrc.out];cases hv:tV N m<;>simp[iQ,hk.out,rK,eI,hv]
   go_upto_if 76 with fail
   go_cut [] from 76 to 77 (fun wc=>∃ N' RE,RS w base qb e0 N' ⟨lo,lc,vo,vc,no,nc,mo,mc⟩ m eo ec RE wc/\RE.ents=[]/\gE (rc1 n m) m=N'/\iQ (rc1 n m) m=[RE])
   case first=>
    rcases bq (tV N m) with hv|hv
    rotate_left
    ·rw[hv]at HN HL ⊢
     go_wp2
     go_meet
     case rel=>exact⟨_,_,h2,rfl,HN,HL⟩
    rw[hv]at HN HL ⊢
    go_wp2_with (first|((with_reducible refine wN 2 (.tmp 79) (.tmp 78) (w.heap.size) 3 (.int .i64 m.frm) ((⟨N.id,N.peers,N.term,m.frm,N.log,N.role,N.commit,N.votes,N.next,N.mat⟩:Nd)) (⟨lo,lc,vo,vc,no,nc,mo,mc⟩) h2.a ?_);intro W5 vA5 gA;have o5:=h2.o.gr gA (bA h2.a) (by decide) (by decide);have h3:=h2.putA vA5 ⟨o5.l,o5.v,o5.x,o5.m,o5.vx,o5.vm,o5.xm⟩ gA)|((with_reducible refine wM 4 (.tmp 80) (.const (.bool true)) (qb) 8 (.bool true) ((⟨2,N.term,N.id,m.frm,0,0,[],0,true⟩:Ms)) h3.q ?_);intro W6 vQ6 gQ)|fail)
    go_meet
    case rel=>exact⟨_,_,h3.putQ vQ6 gQ,rfl,HN,HL⟩
   case rest=>
    clear h2 f0 f1 f2 f3 f4 f5 f6 f7 f8 f9 g0 g1 g2 g3 g4 g5 g6 g7 g8 HN HL;obtain⟨M,RE,h2,HZ,HN,HL⟩:=hcut;replace HZ:Hid _:=HZ
    go_upto_region 16 with fail
    have hd:RB wc wc.drew:=(Below.refl _ _).drew;have hD:=RS.next h2 hd;clear hd
    refine cY (by kernel_rfl) (by kernel_rfl) 3 [0] [1,2,4] (by kernel_rfl) (by kernel_rfl)
     (fun u v=>u.grownBy v (some (w.heap.size+1+1))/\aG u (w.heap.size+1+1) 27)
     (fun W5=>NdB W5 (w.heap.size+1+1) M ⟨lo,lc,vo,vc,no,nc,mo,mc⟩/\NdO W5 base M ⟨lo,lc,vo,vc,no,nc,mo,mc⟩/\Ch base w W5/\MsB W5 qb RE none 0)
     (fun a b h hR=>⟨vn h.1 hR,h.2.1.next hR,h.2.2.1.trans (Ch.of_rb hR),vn h.2.2.2 hR⟩)
     [isV (aX M ⟨lo,lc,vo,vc,no,nc,mo,mc⟩),isV (eS RE none 0),NetV w.heap.size [RE],fun _ _=>True,NetV w.heap.size [RE]]
     ⟨iR,iR,NetV.rb,fun _ _ _ h _=>h,NetV.rb,trivial⟩ ?_ ?_ (kR ?_) _ rfl rfl ?_ ?_
    ·intro i hi v a b h hx
     simp only[List.mem_cons,List.not_mem_nil,or_false]at hi;rcases hi with rfl|rfl|rfl
     ·exact h
     ·exact NetV.gr h hx.1 hx.2
     ·exact NetV.gr h hx.1 hx.2
    ·intro i hi o ho
     simp only[List.mem_cons,List.not_mem_nil,or_false]at hi;subst hi;obtain rfl:=oI ho
     exact oq rfl fun ev w9 v hR E pr=>by
      have e1:=E.was 2 _;exact bD rfl e1 (vn hD.a hR)
    ·refine aD rfl (aM ?_ (aM ?_ (aD rfl (aM ?_ trivial))))
     ·exact LateOk.get _ (fun _=>rfl) fun ev w9 v hR E pr=>by
       have e1:=E.was 8 _
       have vv:MsB w9 qb RE none 0:=by
        rcases hR with hR|hR
        ·exact vn hD.q hR
        ·exact hR.2.2.2
       exact gJ rfl e1 vv
     ·intro ev w9 v hR E pr
      have e1:ev (.tmp 82)=eS RE none 0:=E.kept pr 1 82
      have hs9:w.heap.size<=w9.heap.size:=by
       rcases hR with hR|hR
       ·exact Nat.le_trans hD.c.size hR.size
       ·exact hR.2.2.1.size
      exact⟨.slice (some ⟨w9.heap.size,0,none⟩) 1 1,w9.alloc (.cells (bZ RE none 0).toArray 29),(by (simp[go_sem,e1])<;>rfl),ra _ _,NetV.from (jM w9 RE HZ.out) hs9⟩
     ·intro ev w9 v hR E pr
      exact⟨ev (.tmp 83),w9,by simp[go_sem],rr _,E.kept pr 2 83⟩
    ·intro ev w5 v hR E hp
     have E1:ev (.tmp 81)=aX M ⟨lo,lc,vo,vc,no,nc,mo,mc⟩:=E.get hp 0 81;have E2:ev (.tmp 4)=.pointer (some ⟨w.heap.size+1+1,0,none⟩):=E.was 4 _;have hD5:=RS.next hD hR;have hg:w5.grownBy (setL w5 (w.heap.size+1+1) 0 (aJ M ⟨lo,lc,vo,vc,no,nc,mo,mc⟩)) (some (w.heap.size+1+1)):=bP _ _ 0 _;exact⟨_,bU (aJ M ⟨lo,lc,vo,vc,no,nc,mo,mc⟩) rfl E2 E1 hD5.r (by kernel_rfl) (cD (by kernel_rfl)),⟨hg,hD5.r.typed⟩,bE _ hD5.r,hD5.o.gr hg (bA hD5.r) (by decide) (by decide),hD5.c.box hg (by omega),VHas.gr hD5.q hg (bA hD5.r) (by decide)⟩
    ·intro v8 w8 hP8 hk8
     have k8:NetV w.heap.size [RE] (v8 4) w8:=hk8 4 (by decide) (nb (by kernel_rfl)) (by decide);simp only[bF,Nat.zero_add,Nat.reduceAdd,Act.put,sY,sZ,ss];obtain⟨hv9,hO9,hC9,_⟩:=hP8;obtain⟨q0,q1,q2,q3,q4,q5,q6,q7,q8,q9⟩:=cN hv9;go_wp2;exact bodyPost_ret (v:=.tuple #[aX M ⟨lo,lc,vo,vc,no,nc,mo,mc⟩,v8 4]) (by simp[results,Tryz.results37,go_sem,q0,q1,q2,q3,q4,q5,q6,q7,q8,q9]) rfl (by rw[HN,HL];exact⟨⟨lo,lc,vo,vc,no,nc,mo,mc⟩,v8 4,rfl,hO9,k8,hC9⟩)
end
section
open Go Go.RowKit
theorem U6(p:Nat)(vs:List Int)(fr:Int):tS (p+1) vs fr=tS p vs fr++(if (((p:Int)==fr)||vs.contains (p:Int))=true then [(p:Int)] else []):=by
 simp only[tS,List.range_succ,List.map_append,List.filter_append,List.map_cons,List.map_nil]
 congr 1
 rw[List.filter_cons]
 split<;>simp_all
theorem BJ(p:Nat)(vs:List Int)(fr:Int):(tS p vs fr).length<=p:=by
 unfold tS;refine Nat.le_trans (List.length_filter_le _ _) ?_;simp
theorem tZ{vs:List Int}{i:Nat}{p:Int}(h:i<vs.length):(vs.take (i+1)).contains p=((vs.take i).contains p||(aT vs i==p)):=by
 have e:aT vs i=vs[i]:=by simp[aT,h]
 rw[List.take_succ_eq_append_getElem h,e];simp only[List.contains_eq_any_beq,List.any_append,List.any_cons,List.any_nil,Bool.or_false]
 congr 1
 exact BEq.comm
theorem OwI.snoc{w:World}{base cap:Nat}{ao:Option Addr}{l:List Int}{x:Int}(h:GOwn w base 2 1 ao (l.length+1) cap (fun j=>if j<l.length*1 then lf (cU l) j else .int .i64 x)):OwI w base ao cap (l++[x]):=by
 have e:(l++[x]).length=l.length+1:=by simp
 unfold OwI;rw[e];refine GOwn.congr h (fun j hj=>?_);have e2:cU (l++[x])=cU l++[.int .i64 x]:=by simp[cU]
 rw[e2,mT,cO,Nat.mul_one]
 split
 ·rfl
 ·have:j-l.length=0:=by omega
  rw[this];rfl
def GD(base:Nat)(l:List Int)(v:Value)(w:World):Prop:=∃ ao cap,v=.slice ao l.length cap/\OwI w base ao cap l
theorem VHas.g2{w w':World}{x n b:Nat}{t:TypeId}{f:Nat->Value}{r:Option Nat}(h:VHas w x t n f)(g:G2 b r w w')(h1:x≠b)(h2:r≠some x):VHas w' x t n f:=by
 have e:=g.block x h.lt h1 h2;obtain⟨cs,hb,hs,hc⟩:=h;exact⟨cs,by rw[e];exact hb,hs,hc⟩
end
end Go.Proofs.YtbabakgjkloabaaGreatDoor
