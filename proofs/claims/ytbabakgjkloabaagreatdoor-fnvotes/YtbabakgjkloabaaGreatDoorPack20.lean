/-
  Helpers: Sr4, Sru, Draw, ClD, Cl1.
-/
import Derived.Test.YtbabakgjkloabaaGreatDoorPack19
set_option linter.unusedVariables false
set_option linter.unusedSimpArgs false
set_option maxRecDepth 100000
set_option maxHeartbeats 16000000
namespace Go.Proofs.YtbabakgjkloabaaGreatDoor
section
open Go Go.RowKit
attribute [local go_sem ↓] Go.wp_at_zero Go.wp_at_succ
theorem OwI.cell4{w:World}{base cap g:Nat}{l:List Int}(h:OwI w base (some ⟨g,0,none⟩) cap l)(j:Nat)(hj:j<l.length):w.cell? ⟨g,j,none⟩=some (.int .i64 (aT l j)):=by
 have:=VHas.cell (OwI.cells h (by omega)) (j:=j) (by omega);rw[jF _ _ hj]at this;exact this
theorem RS.setM{w W:World}{base qb e0:Nat}{N:Nd}{lo vo no:Option Addr}{lc vc nc gm mc:Nat}{m:Ms}{eo:Option Addr}{ec:Nat}{RE:Ms}(h:RS w base qb e0 N ⟨lo,lc,vo,vc,no,nc,some ⟨gm,0,none⟩,mc⟩ m eo ec RE W)(fr:Nat)(hf:fr<N.mat.length)(x:Int):RS w base qb e0 (eB N fr x) ⟨lo,lc,vo,vc,no,nc,some ⟨gm,0,none⟩,mc⟩ m eo ec RE (W.setCell ⟨gm,fr,none⟩ (.int .i64 x)):=by
 obtain⟨h1,h2⟩:=h.o.setM fr hf x;have hv:=OwI.cells h.o.m (by show 0<N.mat.length;omega);have g:=aC W gm fr (.int .i64 x);have hT:∀ z,some gm=some z->aG W z 2:=fun z e=>by cases e;exact hv.typed
 exact⟨(VHas.gr h.a g hT (by decide)).congr (fun j hj=>by rw[EA]),VHas.gr h.m g hT (by decide),VHas.gr h.r g hT (by decide),VHas.gr h.q g hT (by decide),h1,GOwn.gr h.z g hT (by decide),h.c.trans h2,h.s,h.t⟩
theorem RS.setX{w W:World}{base qb e0:Nat}{N:Nd}{lo vo mo:Option Addr}{lc vc gx nc mc:Nat}{m:Ms}{eo:Option Addr}{ec:Nat}{RE:Ms}(h:RS w base qb e0 N ⟨lo,lc,vo,vc,some ⟨gx,0,none⟩,nc,mo,mc⟩ m eo ec RE W)(fr:Nat)(hf:fr<N.next.length)(x:Int):RS w base qb e0 (fU N fr x) ⟨lo,lc,vo,vc,some ⟨gx,0,none⟩,nc,mo,mc⟩ m eo ec RE (W.setCell ⟨gx,fr,none⟩ (.int .i64 x)):=by
 obtain⟨h1,h2⟩:=h.o.setX fr hf x;have hv:=OwI.cells h.o.x (by show 0<N.next.length;omega);have g:=aC W gx fr (.int .i64 x);have hT:∀ z,some gx=some z->aG W z 2:=fun z e=>by cases e;exact hv.typed
 exact⟨(VHas.gr h.a g hT (by decide)).congr (fun j hj=>by rw[DZ]),VHas.gr h.m g hT (by decide),VHas.gr h.r g hT (by decide),VHas.gr h.q g hT (by decide),h1,GOwn.gr h.z g hT (by decide),h.c.trans h2,h.s,h.t⟩
theorem NdZ.am{n:Nd}{s:NdS}(h:NdZ n s)(fr:Nat)(x:Int):NdZ (eB n fr x) s:=
 ⟨h.l,h.v,h.x,by simp only[eB,List.length_set];exact h.m,h.lc,h.vc,h.xc,by simp only[eB,List.length_set];exact h.mc,h.tx⟩
theorem NdZ.ax{n:Nd}{s:NdS}(h:NdZ n s)(fr:Nat)(x:Int):NdZ (fU n fr x) s:=
 ⟨h.l,h.v,by simp only[fU,List.length_set];exact h.x,h.m,h.lc,h.vc,by simp only[fU,List.length_set];exact h.xc,h.mc,h.tx⟩
theorem T3(n:Nd)(fr:Nat)(h:fr<n.mat.length):eB n fr (aT n.mat fr)=n:=by
 have e:n.mat.set fr (aT n.mat fr)=n.mat:=by
  have:aT n.mat fr=n.mat[fr]:=by simp[aT,h]
  rw[this];exact List.set_getElem_self h
 cases n;simp only[eB] at *
 rw[e]
theorem tY(n:Nd)(s:NdS)(hz:NdZ n s)(m:Ms)(eo:Option Addr)(ec:Nat)(hmz:MsZ m)(hB:bY n=true)(hix:-9223372036854775808<=m.index/\m.index<=9223372036854775807)(base:Nat)(w:World)(hbs:base<=w.heap.size)(hO:NdO w base n s)(hE:MsM w m eo ec)(hk:m.kind=4)(hF:gV n m=true):Calls Tryz.prog 37 #[aX n s,eS m eo ec] w fun e w'=>ED base (gE (rc1 n m) m) (iQ (rc1 n m) m) w w' e:=by
 have hpe:=dW hB;replace hk:Hid (m.kind=4):=hk;have hb:=rt _ _ _ (rt _ _ _ (ra w (.cells (aJ n s).toArray 27)) (ra _ (.cells (bZ m eo ec).toArray 29))) (ra _ (.cells (aJ aU aP).toArray 27));have vA:NdB _ w.heap.size n s:=((aH w n s).next (ra _ (.cells (bZ m eo ec).toArray 29))).next (ra _ (.cells (aJ aU aP).toArray 27));have vM:MsB _ (w.alloc (.cells (aJ n s).toArray 27)).heap.size m eo ec:=(bJ (w.alloc (.cells (aJ n s).toArray 27)) m eo ec).next (ra _ (.cells (aJ aU aP).toArray 27));have vR:=aH ((w.alloc (.cells (aJ n s).toArray 27)).alloc (.cells (bZ m eo ec).toArray 29)) aU aP;rw[World.size_alloc]at vM;rw[World.size_alloc,World.size_alloc]at vR;have HE:Hid (∀ W,Ch base w W->LRow w 47 eo (dZ m.ents)->True):=fun _ _ _=>trivial
 replace hO:=hO.next hb;have hEn:=hE.e.next hb;have hEc:=hE.c;clear HE hE;go_enter Tryz.func37,Tryz.ntmps37;refine aW fun K0 hK0=>?_
 go_wp2;refine hK0.out _ _ ?_;clear hK0;generalize (((w.alloc _).alloc _).alloc _)=W at hb vA vM vR hO hEn ⊢;have hal:=ra W (.cells #[] 29);have hN0:GOwn (W.alloc (.cells #[] 29)) w.heap.size 29 9 (some ⟨W.heap.size,0,none⟩) 0 0 (lf (jV [])):=GOwn.from (GOwn.empty W 29 9 _) hb.size
 replace hb:=rt _ _ _ hb hal;replace vA:=vn vA hal;replace vM:=vn vM hal;replace vR:=vn vR hal;replace hO:=hO.next hal;replace hEn:=hEn.next hal;clear hal;obtain⟨f0,f1,f2,f3,f4,f5,f6,f7,f8,f9⟩:=cN vA;obtain⟨g0,g1,g2,g3,g4,g5,g6,g7,g8⟩:=cM vM
 go_wp2_with fail
 generalize W.heap.size=e0 at hN0 ⊢;generalize (W.alloc _)=W1 at hN0 hb vA vM vR hO hEn f0 f1 f2 f3 f4 f5 f6 f7 f8 f9 g0 g1 g2 g3 g4 g5 g6 g7 g8 ⊢;refine (gO n s m eo ec ⟨hpe.1,hpe.2.1⟩ hmz.l hmz.x _ hEn).mono ?_;rintro e w1 ⟨rfl,hb1⟩;replace hb:=rt _ _ _ hb hb1;replace vA:NdB w1 w.heap.size n s:=vn vA hb1;replace vM:MsB w1 (w.heap.size+1) m eo ec:=vn vM hb1;replace vR:NdB w1 (w.heap.size+1+1) aU aP:=vn vR hb1;replace hN0:=GOwn.next hN0 hb1;replace hO:=hO.next hb1;replace hEn:=hEn.next hb1;clear hb1 f0 f1 f2 f3 f4 f5 f6 f7 f8 f9 g0 g1 g2 g3 g4 g5 g6 g7 g8;have hC:Ch base w w1:=Ch.of_rb hb;have hwsz:w.heap.size+1+1<w1.heap.size:=vR.lt;clear hb;rw[hF];have hff:=hF;simp only[gV,Bool.and_eq_true]at hff
 have hfr:0<=m.frm/\m.frm<n.peers:=by
  have:=hff.2.2.1;simpa[dS] using this
 have hmt:1<=m.term/\m.term<=100000:=⟨of_decide_eq_true hff.2.2.2.2.2.1,of_decide_eq_true hff.2.2.2.2.2.2.1⟩
 clear hff hF;obtain⟨f0,f1,f2,f3,f4,f5,f6,f7,f8,f9⟩:=cN vA;obtain⟨g0,g1,g2,g3,g4,g5,g6,g7,g8⟩:=cM vM
 go_upto_if 30 with fail
 go_cut [] from 19 to 32 (fun wc=>∃ N s2,NdB wc w.heap.size N s2/\MsB wc (w.heap.size+1) m eo ec/\NdB wc (w.heap.size+1+1) aU aP/\NdO wc base N s2/\GOwn wc w.heap.size 29 9 (some ⟨e0,0,none⟩) 0 0 (lf (jV []))/\Ch base w wc/\LRow wc 47 eo (dZ m.ents)/\rc1 n m=N/\NkR N/\NdZ N s2/\N.peers=n.peers)
 case first=>
  by_cases hup:n.term<m.term
  ·have hrc:rc1 n m=(lJ n m.term):=if_pos hup
   go_wp2_with (first|((with_reducible refine wN 2 (.tmp 33) (.tmp 32) (w.heap.size) 2 (.int .i64 m.term) ((⟨n.id,n.peers,m.term,n.vote,n.log,n.role,n.commit,n.votes,n.next,n.mat⟩:Nd)) (s) vA ?_);intro Wa va ga)|((with_reducible refine cG rfl 2 (.tmp 34) (.const (.int .i64 (-1))) rfl rfl (w.heap.size) 3 (.int .i64 (-1)) (by simp[go_sem]) (by simp[go_sem]) ((⟨n.id,n.peers,m.term,-1,n.log,n.role,n.commit,n.votes,n.next,n.mat⟩:Nd)) (s) va (by omega) (by kernel_rfl) (by kernel_rfl) (dT (by kernel_rfl)) (by kernel_rfl) ?_);intro Wb vb gb)|fail)
   clear f0 f1 f2 f3 f4 f5 f6 f7 f8 f9 g0 g1 g2 g3 g4 g5 g6 g7 g8;have hOb:=(hO.gr ga (bA vA) (by decide) (by decide)).gr gb (bA va) (by decide) (by decide);have vMb:MsB Wb (w.heap.size+1) m eo ec:=VHas.grown (VHas.grown vM ga (fun e=>by have:=oI e;omega)) gb (fun e=>by have:=oI e;omega);have vRb:NdB Wb (w.heap.size+1+1) aU aP:=VHas.grown (VHas.grown vR ga (fun e=>by have:=oI e;omega)) gb (fun e=>by have:=oI e;omega);have hNb:=GOwn.gr (GOwn.gr hN0 ga (bA vA) (by decide)) gb (bA va) (by decide);have hEb:=(hEn.gr ga (bA vA) (by decide)).gr gb (bA va) (by decide);have hCb:=(hC.box ga nl).box gb nl;have hO2:NdO Wb base (⟨n.id,n.peers,m.term,-1,n.log,n.role,n.commit,n.votes,n.next,n.mat⟩:Nd) s:=⟨hOb.l,hOb.v,hOb.x,hOb.m,hOb.vx,hOb.vm,hOb.xm⟩
   clear hO vM vR hN0 hEn hC ga vA va hOb;refine (fB (⟨n.id,n.peers,m.term,-1,n.log,n.role,n.commit,n.votes,n.next,n.mat⟩:Nd) s w.heap.size base _ (Nat.le_trans hbs hCb.size) vb hO2).mono ?_;rintro e w2 ⟨rfl,s2,vA,hO,gA⟩;have eU:bV (⟨n.id,n.peers,m.term,-1,n.log,n.role,n.commit,n.votes,n.next,n.mat⟩:Nd)=(lJ n m.term):=rfl;rw[eU]at vA hO;have vM:MsB w2 (w.heap.size+1) m eo ec:=VHas.grown vMb gA (fun e=>by have:=oI e;omega);have vR:NdB w2 (w.heap.size+1+1) aU aP:=VHas.grown vRb gA (fun e=>by have:=oI e;omega);have hN0:=GOwn.gr hNb gA (bA vb) (by decide);have hEn:=hEb.gr gA (bA vb) (by decide);have hC:=hCb.box gA nl;have hzU:=sF (kK hB hmt) hO hz.l hz.tx (by simp[lJ]) (by simp[lJ]) (by simp[lJ]);clear vMb vRb hNb hEb hCb hO2 vb gb gA hup eU;go_wp2
   go_meet
   case rel=>exact⟨(lJ n m.term),s2,vA,vM,vR,hO,hN0,hC,hEn,hrc,kK hB hmt,hzU,rfl⟩
  ·go_wp2
   go_meet
   case rel=>exact⟨n,s,vA,vM,vR,hO,hN0,hC,hEn,if_neg (by omega),pZ hB,hz,rfl⟩
 case rest=>
  clear vA vM vR hO hN0 hC hEn hwsz f0 f1 f2 f3 f4 f5 f6 f7 f8 f9 g0 g1 g2 g3 g4 g5 g6 g7 g8;obtain⟨N,s2,vA,vM,vR,hO,hN0,hC,hEn,hrc,hBN,hzN,hNp⟩:=hcut;have hwsz:w.heap.size+1+1<wc.heap.size:=vR.lt;replace hrc:Hid (rc1 n m=N):=hrc;replace hBN:Hid (NkR N):=hBN;replace hNp:Hid (N.peers=n.peers):=hNp;obtain⟨lo,lc,vo,vc,no,nc,mo,mc⟩:=s2;obtain⟨f0,f1,f2,f3,f4,f5,f6,f7,f8,f9⟩:=cN vA;obtain⟨g0,g1,g2,g3,g4,g5,g6,g7,g8⟩:=cM vM;have hal:=ra wc (.cells (bZ gW none 0).toArray 29);have h0:RS w base wc.heap.size e0 N ⟨lo,lc,vo,vc,no,nc,mo,mc⟩ m eo ec gW (wc.alloc (.cells (bZ gW none 0).toArray 29)):=⟨vn vA hal,vn vM hal,vn vR hal,bJ wc gW none 0,hO.next hal,GOwn.next hN0 hal,hC.trans (Ch.of_rb hal),vR.lt,(GOwn.at hN0 rfl).2⟩
  replace hEn:=hEn.next hal;clear hal vA vM vR hN0 hC hO
  go_upto_if 48 with (first|((with_reducible refine wB 29 (.tmp 8) (.tmp 45) wc.heap.size (bZ (⟨0,N.term,N.id,m.frm,0,0,[],0,false⟩:Ms) none 0) h0.q ?_);intro W2 vQ2 gQ;have h1:RS w base wc.heap.size e0 N ⟨lo,lc,vo,vc,no,nc,mo,mc⟩ m eo ec (⟨0,N.term,N.id,m.frm,0,0,[],0,false⟩:Ms) W2:=h0.putQ vQ2 gQ;have hEn1:=hEn.gr gQ (fun x e=>by cases e;exact h0.q.typed) (by decide);clear f0 f1 f2 f3 f4 f5 f6 f7 f8 f9 g0 g1 g2 g3 g4 g5 g6 g7 g8 gQ vQ2;obtain⟨f0,f1,f2,f3,f4,f5,f6,f7,f8,f9⟩:=cN h1.a;obtain⟨g0,g1,g2,g3,g4,g5,g6,g7,g8⟩:=cM h1.m)|fail)
  generalize wc.heap.size=qb at h1 hwsz ⊢;clear h0 hEn
  have k1:(m.kind==1)=false:=by rw[hk.out];rfl
  have k2:(m.kind==2)=false:=by rw[hk.out];rfl
  have k3:(m.kind==3)=false:=by rw[hk.out];rfl
  have k4:(m.kind==4)=true:=by rw[hk.out];rfl
  go_upto_region 58 with fail
  clear k1 k2 k3 k4
  by_cases r3:N.role=3
  rotate_left
  ·have r3':(N.role != 3)=true:=by simp[r3]
   have HN:Hid (gE (rc1 n m) m=N):=by show _ = _;rw[hrc.out];simp[gE,hk.out,jU,r3]
   have HL:Hid (iQ (rc1 n m) m=[]):=by show _ = _;rw[hrc.out];simp[iQ,hk.out]
   clear r3
   go_wp2_with (first|((with_reducible refine wB 27 (.tmp 4) (.tmp 250) (w.heap.size+1+1) (aJ (N) (⟨lo,lc,vo,vc,no,nc,mo,mc⟩)) h1.r ?_);intro W9 hv9 hg9)|fail)
   obtain⟨q0,q1,q2,q3,q4,q5,q6,q7,q8,q9⟩:=cN hv9;exact bodyPost_ret (v:=.tuple #[aX N ⟨lo,lc,vo,vc,no,nc,mo,mc⟩,.slice (some ⟨e0,0,none⟩) 0 0]) (by simp[results,Tryz.results37,go_sem,q0,q1,q2,q3,q4,q5,q6,q7,q8,q9]) rfl (by rw[HN.out,HL.out];exact⟨⟨lo,lc,vo,vc,no,nc,mo,mc⟩,_,rfl,h1.o.gr hg9 (bA h1.r) (by decide) (by decide),kL (GOwn.gr h1.z hg9 (bA h1.r) (by decide)),h1.c.box hg9 (by omega)⟩)
  have r3':(N.role != 3)=false:=by simp[r3]
  by_cases b1:m.term=N.term
  rotate_left
  ·have b1':(m.term != N.term)=true:=by simp[b1]
   have HN:Hid (gE (rc1 n m) m=N):=by show _ = _;rw[hrc.out];simp[gE,hk.out,jU,b1]
   have HL:Hid (iQ (rc1 n m) m=[]):=by show _ = _;rw[hrc.out];simp[iQ,hk.out]
   clear r3 b1
   go_wp2_with (first|((with_reducible refine wB 27 (.tmp 4) (.tmp 250) (w.heap.size+1+1) (aJ (N) (⟨lo,lc,vo,vc,no,nc,mo,mc⟩)) h1.r ?_);intro W9 hv9 hg9)|fail)
   obtain⟨q0,q1,q2,q3,q4,q5,q6,q7,q8,q9⟩:=cN hv9;exact bodyPost_ret (v:=.tuple #[aX N ⟨lo,lc,vo,vc,no,nc,mo,mc⟩,.slice (some ⟨e0,0,none⟩) 0 0]) (by simp[results,Tryz.results37,go_sem,q0,q1,q2,q3,q4,q5,q6,q7,q8,q9]) rfl (by rw[HN.out,HL.out];exact⟨⟨lo,lc,vo,vc,no,nc,mo,mc⟩,_,rfl,h1.o.gr hg9 (bA h1.r) (by decide) (by decide),kL (GOwn.gr h1.z hg9 (bA h1.r) (by decide)),h1.c.box hg9 (by omega)⟩)
  have b1':(m.term != N.term)=false:=by simp[b1]
  obtain⟨hnl,hml,hnb⟩:=hBN.out.x r3;have HA:Hid (gE (rc1 n m) m=if m.yes then yP (fU (eB N m.frm.toNat (dL N m m.frm.toNat)) m.frm.toNat (dL N m m.frm.toNat+1)) else fU N m.frm.toNat (rD N m m.frm.toNat)):=by show _ = _;rw[hrc.out];simp[gE,hk.out,jU,r3,b1]
  have HL:Hid (iQ (rc1 n m) m=[]):=by show _ = _;rw[hrc.out];simp[iQ,hk.out]
  have hNpp:=hNp.out;have hfr0:0<=m.frm:=hfr.1;have hfx:m.frm.toNat<N.next.length:=by omega
  have hfm:m.frm.toNat<N.mat.length:=by omega
  have hfx':m.frm<(N.next.length:Int):=by omega
  have hfm':m.frm<(N.mat.length:Int):=by omega
  have hbx:=hnb m.frm.toNat hfx;have hll:N.log.length<=200:=oV hBN.out.l;clear r3 b1 hnb;obtain⟨gx,eg,_,_⟩:=h1.o.x.vh (by show 0<N.next.length;omega);simp only at eg;subst eg;obtain⟨gm,eg,_,_⟩:=h1.o.m.vh (by show 0<N.mat.length;omega);simp only at eg;subst eg;have hxx:Hid (aT N.next m.frm.toNat<=(N.log.length:Int)+1/\1<=aT N.next m.frm.toNat):=⟨hbx.2.1,hbx.1⟩
  have hmm:0<=aT N.mat m.frm.toNat/\aT N.mat m.frm.toNat<=200:=by omega
  have hxb:1<=aT N.next m.frm.toNat/\aT N.next m.frm.toNat<=201:=by omega
  clear hnl hbx hNpp;rcases bq m.yes with hy|hy
  rotate_left
  ·have HN:Hid (gE (rc1 n m) m=(fU N m.frm.toNat (max (aT N.mat m.frm.toNat+1) (min (aT N.next m.frm.toNat-1) (min (N.log.length:Int) m.index+1))))):=by
    show _ = _
    rw[HA.out,hy]
    have e:rD N m m.frm.toNat=max (aT N.mat m.frm.toNat+1) (min (aT N.next m.frm.toNat-1) (min (N.log.length:Int) m.index+1)):=by
     have:=hxx.out;simp only[rD];omega
    rw[<-e];rfl
   clear HA hxx
   go_wp2_with fail
   clear f0 f1 f2 f3 f4 f5 f6 f7 f8 f9 g0 g1 g2 g3 g4 g5 g6 g7 g8;have hd:RB W2 W2.drew:=(Below.refl _ _).drew;have hD:=RS.next h1 hd;clear hd;have hw1:IntKind.i64.wrap (aT N.mat m.frm.toNat+1)=aT N.mat m.frm.toNat+1:=wi
   have hw293:IntKind.i64.wrap ((aT N.mat m.frm.toNat)+1)=((aT N.mat m.frm.toNat)+1):=wi
   have hw299:IntKind.i64.wrap ((aT N.next m.frm.toNat)-1)=((aT N.next m.frm.toNat)-1):=wi
   have hw304:IntKind.i64.wrap ((min ((N.log.length:Int)) (m.index))+1)=((min ((N.log.length:Int)) (m.index))+1):=wi
   refine bW (by kernel_rfl) (by kernel_rfl) (by kernel_rfl) RB rr rt
    [isV (.pointer (some ⟨w.heap.size,8,none⟩)),isV (.slice (some ⟨gx,0,none⟩) N.next.length nc),isV (.int .i64 m.frm),isV (.pointer (some ⟨w.heap.size,9,none⟩)),isV (.slice (some ⟨gm,0,none⟩) N.mat.length mc),isV (.int .i64 m.frm),isV (.pointer (some ⟨gm,m.frm.toNat,none⟩)),isV (.int .i64 (aT N.mat m.frm.toNat)),isV (.int .i64 ((aT N.mat m.frm.toNat)+1)),isV (.pointer (some ⟨w.heap.size,8,none⟩)),isV (.slice (some ⟨gx,0,none⟩) N.next.length nc),isV (.int .i64 m.frm),isV (.pointer (some ⟨gx,m.frm.toNat,none⟩)),isV (.int .i64 (aT N.next m.frm.toNat)),isV (.int .i64 ((aT N.next m.frm.toNat)-1)),isV (.int .i64 (N.log.length:Int)),isV (.pointer (some ⟨w.heap.size+1,4,none⟩)),isV (.int .i64 m.index),isV (.int .i64 (min ((N.log.length:Int)) (m.index))),isV (.int .i64 ((min ((N.log.length:Int)) (m.index))+1)),isV (.int .i64 (min (((aT N.next m.frm.toNat)-1)) (((min ((N.log.length:Int)) (m.index))+1)))),isV (.int .i64 (max (((aT N.mat m.frm.toNat)+1)) ((min (((aT N.next m.frm.toNat)-1)) (((min ((N.log.length:Int)) (m.index))+1)))))),isV (.pointer (some ⟨gx,m.frm.toNat,none⟩))]
    ⟨iR,iR,iR,iR,iR,iR,iR,iR,iR,iR,iR,iR,iR,iR,iR,iR,iR,iR,iR,iR,iR,iR,iR,trivial⟩ rfl ?_ _ rfl rfl rfl
    (fun v9 W9=>RS w base qb e0 (fU N m.frm.toNat (max (aT N.mat m.frm.toNat+1) (min (aT N.next m.frm.toNat-1) (min (N.log.length:Int) m.index+1)))) ⟨lo,lc,vo,vc,some ⟨gx,0,none⟩,nc,some ⟨gm,0,none⟩,mc⟩ m eo ec (⟨0,N.term,N.id,m.frm,0,0,[],0,false⟩:Ms) W9) ?_ ?_
   ·simp only[List.size_toArray,List.length_cons,List.length_nil,Nat.reduceAdd,Nat.reduceSub,List.take_succ_cons,List.take_zero]
    refine⟨?_,?_,?_,?_,?_,?_,?_,?_,?_,?_,?_,?_,?_,?_,?_,?_,?_,?_,?_,?_,?_,?_,?_,trivial⟩
    ·exact ow 2
    ·exact oq rfl fun ev w9 v hR E pr=>by
      have e1:=E.eq pr 0 285;have cc:=(hD.a.next hR).cell (j:=8) (by omega);simp[lf,eB,fU]at cc;simp[go_sem,cc,e1]
    ·exact ow 18
    ·exact ow 2
    ·exact oq rfl fun ev w9 v hR E pr=>by
      have e1:=E.eq pr 3 288;have cc:=(hD.a.next hR).cell (j:=9) (by omega);simp[lf,eB,fU]at cc;simp[go_sem,cc,e1]
    ·exact ow 18
    ·exact oq rfl fun ev w9 v hR E pr=>by
      have e1:=E.eq pr 4 289;have e2:=E.eq pr 5 290;simp[go_sem,hfr0,hfm',e1,e2]
    ·exact oq rfl fun ev w9 v hR E pr=>by
      have e1:=E.eq pr 6 291;have cc:=OwI.cell4 (RS.next hD hR).o.m m.frm.toNat hfm;simp[go_sem,cc,e1]
    ·exact mQ 7 292 hw293
    ·exact ow 2
    ·exact oq rfl fun ev w9 v hR E pr=>by
      have e1:=E.eq pr 9 294;have cc:=(hD.a.next hR).cell (j:=8) (by omega);simp[lf,eB,fU]at cc;simp[go_sem,cc,e1]
    ·exact ow 18
    ·exact oq rfl fun ev w9 v hR E pr=>by
      have e1:=E.eq pr 10 295;have e2:=E.eq pr 11 296;simp[go_sem,hfr0,hfx',e1,e2]
    ·exact oq rfl fun ev w9 v hR E pr=>by
      have e1:=E.eq pr 12 297;have cc:=OwI.cell4 (RS.next hD hR).o.x m.frm.toNat hfx;simp[go_sem,cc,e1]
    ·exact mQ 13 298 hw299
    ·exact ow 7
    ·exact ow 3
    ·exact oc 16 301 fun _ hR=>(hD.m.next hR).cell (j:=4) (by omega)
    ·exact OpOk.ret _ (fun _=>rfl) fun ev w9 v hR E pr=>by
      have e1:=E.eq pr 15 300;have e2:=E.eq pr 17 302;refine⟨83,#[.int .i64 (N.log.length:Int),.int .i64 m.index],by simp[go_sem,gv,e1,e2,E.fn],?_⟩;exact kW ((N.log.length:Int)) (m.index) _
    ·exact mQ 18 303 hw304
    ·exact OpOk.ret _ (fun _=>rfl) fun ev w9 v hR E pr=>by
      have e1:=E.eq pr 14 299;have e2:=E.eq pr 19 304;refine⟨83,#[.int .i64 ((aT N.next m.frm.toNat)-1),.int .i64 ((min ((N.log.length:Int)) (m.index))+1)],by simp[go_sem,gv,e1,e2,E.fn],?_⟩;exact kW (((aT N.next m.frm.toNat)-1)) (((min ((N.log.length:Int)) (m.index))+1)) _
    ·exact OpOk.ret _ (fun _=>rfl) fun ev w9 v hR E pr=>by
      have e1:=E.eq pr 8 293;have e2:=E.eq pr 20 305;refine⟨69,#[.int .i64 ((aT N.mat m.frm.toNat)+1),.int .i64 (min (((aT N.next m.frm.toNat)-1)) (((min ((N.log.length:Int)) (m.index))+1)))],by simp[go_sem,gv,e1,e2,E.fn],?_⟩;exact jH (((aT N.mat m.frm.toNat)+1)) ((min (((aT N.next m.frm.toNat)-1)) (((min ((N.log.length:Int)) (m.index))+1)))) _
    ·exact oq rfl fun ev w9 v hR E pr=>by
      have e1:=E.eq pr 1 286;have e2:=E.eq pr 2 287;simp[go_sem,hfr0,hfx',e1,e2]
   ·intro ev w9 v hR E hp9
    obtain⟨_,_,_,_,_,_,_,_,_,_,_,_,_,_,_,_,_,_,_,_,_,p21,p22,_⟩:=hp9;have E1:=E.at_ 22 307 rfl (by kernel_rfl) (nb (by kernel_rfl));have E2:=E.at_ 21 306 rfl (by kernel_rfl) (nb (by kernel_rfl));rw[p22]at E1;rw[p21]at E2;have h9:=RS.next hD hR;exact⟨_,cI rfl E1 E2 (OwI.cells h9.o.x (by omega)) (by omega) (by kernel_rfl) rfl (dT rfl),h9.setX m.frm.toNat hfx _⟩
   ·intro v9 W9 h9
    simp only[List.size_toArray,List.length_cons,List.length_nil,Nat.reduceAdd,Nat.reduceSub,List.take_succ_cons,List.take_zero];rw[mF v9 _ 0 285]
    rotate_left
    ·kernel_rfl
    ·exact nb (by kernel_rfl)
    simp only[yU,List.length_cons,List.length_nil,List.take_succ_cons,List.take_zero,List.drop_succ_cons,List.drop_zero,List.cons_append,List.nil_append,Nat.reduceAdd,Nat.zero_add];clear hD;generalize hNX:(fU N m.frm.toNat (max (aT N.mat m.frm.toNat+1) (min (aT N.next m.frm.toNat-1) (min (N.log.length:Int) m.index+1))))=M at h9 HN;clear hNX;obtain⟨f0,f1,f2,f3,f4,f5,f6,f7,f8,f9⟩:=cN h9.a
    go_wp2_with (first|((with_reducible refine wB 27 (.tmp 4) (.tmp 308) (w.heap.size+1+1) (aJ (M) (⟨lo,lc,vo,vc,some ⟨gx,0,none⟩,nc,some ⟨gm,0,none⟩,mc⟩)) h9.r ?_);intro W9 hv9 hg9)|fail)
    obtain⟨q0,q1,q2,q3,q4,q5,q6,q7,q8,q9⟩:=cN hv9;exact bodyPost_ret (v:=.tuple #[aX M ⟨lo,lc,vo,vc,some ⟨gx,0,none⟩,nc,some ⟨gm,0,none⟩,mc⟩,.slice (some ⟨e0,0,none⟩) 0 0]) (by simp[results,Tryz.results37,go_sem,q0,q1,q2,q3,q4,q5,q6,q7,q8,q9]) rfl (by rw[HN.out,HL.out];exact⟨⟨lo,lc,vo,vc,some ⟨gx,0,none⟩,nc,some ⟨gm,0,none⟩,mc⟩,_,rfl,h9.o.gr hg9 (bA h9.r) (by decide) (by decide),kL (GOwn.gr h9.z hg9 (bA h9.r) (by decide)),h9.c.box hg9 (by omega)⟩)
  have e2:aT (eB N m.frm.toNat (dL N m m.frm.toNat)).mat m.frm.toNat=(dL N m m.frm.toNat):=by simp[eB,aT,hfm]
  have hap:0<=(dL N m m.frm.toNat)/\(dL N m m.frm.toNat)<=200:=by unfold dL;split<;>omega
  have HN:Hid (gE (rc1 n m) m=G5 (fU (eB N m.frm.toNat (dL N m m.frm.toNat)) m.frm.toNat (aT (eB N m.frm.toNat (dL N m m.frm.toNat)).mat m.frm.toNat+1))):=by
   show _ = _
   rw[HA.out,hy];rw[e2];rfl
  have hbM:0<=aT (eB N m.frm.toNat (dL N m m.frm.toNat)).mat m.frm.toNat/\aT (eB N m.frm.toNat (dL N m m.frm.toNat)).mat m.frm.toNat<=200:=by rw[e2];exact hap
  clear e2 hap HA;have hzM:NdZ (eB N m.frm.toNat (dL N m m.frm.toNat)) ⟨lo,lc,vo,vc,some ⟨gx,0,none⟩,nc,some ⟨gm,0,none⟩,mc⟩:=hzN.am _ _;have hcM:0<=(eB N m.frm.toNat (dL N m m.frm.toNat)).commit:=hBN.out.c.1;have hpM:1<=(eB N m.frm.toNat (dL N m m.frm.toNat)).peers/\(eB N m.frm.toNat (dL N m m.frm.toNat)).peers<=5:=hBN.out.p;have hmM:((eB N m.frm.toNat (dL N m m.frm.toNat)).mat.length:Int)=(eB N m.frm.toNat (dL N m m.frm.toNat)).peers:=by simp only[eB,List.length_set];exact hml
  have hqm:m.frm.toNat<(eB N m.frm.toNat (dL N m m.frm.toNat)).mat.length:=by simp only[eB,List.length_set];exact hfm
  have hqx:m.frm.toNat<(eB N m.frm.toNat (dL N m m.frm.toNat)).next.length:=hfx;have hqm':m.frm<((eB N m.frm.toNat (dL N m m.frm.toNat)).mat.length:Int):=by simp only[eB,List.length_set];exact hfm'
  have hqx':m.frm<((eB N m.frm.toNat (dL N m m.frm.toNat)).next.length:Int):=hfx'
  go_upto_if 259 with fail
  clear r3' b1' hy
  go_cut [48,49,84,85,143,144,238,239] from 240 to 260 (fun _ _ _ _ _ _ _ _ wz=>RS w base qb e0 (eB N m.frm.toNat (dL N m m.frm.toNat)) ⟨lo,lc,vo,vc,some ⟨gx,0,none⟩,nc,some ⟨gm,0,none⟩,mc⟩ m eo ec (⟨0,N.term,N.id,m.frm,0,0,[],0,false⟩:Ms) wz)
  case first=>
   by_cases bi:m.index<=(N.log.length:Int)
   ·have e1:(dL N m m.frm.toNat)=max (aT N.mat m.frm.toNat) m.index:=by simp[dL,bi]
    go_wp2_with fail
    clear f0 f1 f2 f3 f4 f5 f6 f7 f8 f9 g0 g1 g2 g3 g4 g5 g6 g7 g8;have hd:RB W2 W2.drew:=(Below.refl _ _).drew;have hD:=RS.next h1 hd;clear hd
    refine bW (by kernel_rfl) (by kernel_rfl) (by kernel_rfl) RB rr rt
     [isV (.pointer (some ⟨w.heap.size,9,none⟩)),isV (.slice (some ⟨gm,0,none⟩) N.mat.length mc),isV (.int .i64 m.frm),isV (.pointer (some ⟨w.heap.size,9,none⟩)),isV (.slice (some ⟨gm,0,none⟩) N.mat.length mc),isV (.int .i64 m.frm),isV (.pointer (some ⟨gm,m.frm.toNat,none⟩)),isV (.int .i64 (aT N.mat m.frm.toNat)),isV (.pointer (some ⟨w.heap.size+1,4,none⟩)),isV (.int .i64 m.index),isV (.int .i64 (max ((aT N.mat m.frm.toNat)) (m.index))),isV (.pointer (some ⟨gm,m.frm.toNat,none⟩))]
     ⟨iR,iR,iR,iR,iR,iR,iR,iR,iR,iR,iR,iR,trivial⟩ rfl ?_ _ rfl rfl rfl
     (fun v9 W9=>RS w base qb e0 (eB N m.frm.toNat (max (aT N.mat m.frm.toNat) m.index)) ⟨lo,lc,vo,vc,some ⟨gx,0,none⟩,nc,some ⟨gm,0,none⟩,mc⟩ m eo ec (⟨0,N.term,N.id,m.frm,0,0,[],0,false⟩:Ms) W9) ?_ ?_
    ·simp only[List.size_toArray,List.length_cons,List.length_nil,Nat.reduceAdd,Nat.reduceSub,List.take_succ_cons,List.take_zero]
     refine⟨?_,?_,?_,?_,?_,?_,?_,?_,?_,?_,?_,?_,trivial⟩
     ·exact ow 2
     ·exact oq rfl fun ev w9 v hR E pr=>by
       have e1:=E.eq pr 0 260;have cc:=(hD.a.next hR).cell (j:=9) (by omega);simp[lf,eB,fU]at cc;simp[go_sem,cc,e1]
     ·exact ow 18
     ·exact ow 2
     ·exact oq rfl fun ev w9 v hR E pr=>by
       have e1:=E.eq pr 3 263;have cc:=(hD.a.next hR).cell (j:=9) (by omega);simp[lf,eB,fU]at cc;simp[go_sem,cc,e1]
     ·exact ow 18
     ·exact oq rfl fun ev w9 v hR E pr=>by
       have e1:=E.eq pr 4 264;have e2:=E.eq pr 5 265;simp[go_sem,hfr0,hfm',e1,e2]
     ·exact oq rfl fun ev w9 v hR E pr=>by
       have e1:=E.eq pr 6 266;have cc:=OwI.cell4 (RS.next hD hR).o.m m.frm.toNat hfm;simp[go_sem,cc,e1]
     ·exact ow 3
     ·exact oc 8 268 fun _ hR=>(hD.m.next hR).cell (j:=4) (by omega)
     ·exact OpOk.ret _ (fun _=>rfl) fun ev w9 v hR E pr=>by
       have e1:=E.eq pr 7 267;have e2:=E.eq pr 9 269;refine⟨69,#[.int .i64 (aT N.mat m.frm.toNat),.int .i64 m.index],by simp[go_sem,gv,e1,e2,E.fn],?_⟩;exact jH ((aT N.mat m.frm.toNat)) (m.index) _
     ·exact oq rfl fun ev w9 v hR E pr=>by
       have e1:=E.eq pr 1 261;have e2:=E.eq pr 2 262;simp[go_sem,hfr0,hfm',e1,e2]
    ·intro ev w9 v hR E hp9
     obtain⟨_,_,_,_,_,_,_,_,_,_,p10,p11,_⟩:=hp9;have E1:=E.at_ 11 271 rfl (by kernel_rfl) (nb (by kernel_rfl));have E2:=E.at_ 10 270 rfl (by kernel_rfl) (nb (by kernel_rfl));rw[p11]at E1;rw[p10]at E2;have h9:=RS.next hD hR;exact⟨_,cI rfl E1 E2 (OwI.cells h9.o.m (by omega)) (by omega) (by kernel_rfl) rfl (dT rfl),h9.setM m.frm.toNat hfm _⟩
    ·intro v9 W9 h9
     simp only[List.size_toArray,List.length_cons,List.length_nil,Nat.reduceAdd,Nat.reduceSub,List.take_succ_cons,List.take_zero];rw[mF v9 _ 0 260]
     rotate_left
     ·kernel_rfl
     ·exact nb (by kernel_rfl)
     simp only[yU,List.length_cons,List.length_nil,List.take_succ_cons,List.take_zero,List.drop_succ_cons,List.drop_zero,List.cons_append,List.nil_append,Nat.reduceAdd,Nat.zero_add];clear hD;go_wp2
     go_meet
     case rel=>rw[e1];exact h9
   have e1:(dL N m m.frm.toNat)=aT N.mat m.frm.toNat:=by simp[dL,bi]
   go_wp2
   go_meet
   case rel=>rw[e1,T3 N m.frm.toNat hfm];exact h1
  case rest=>
   clear h1 f0 f1 f2 f3 f4 f5 f6 f7 f8 f9 g0 g1 g2 g3 g4 g5 g6 g7 g8;generalize (eB N m.frm.toNat (dL N m m.frm.toNat))=M at hcut HN hzM hcM hpM hmM hqm hqx hqm' hqx' hbM;obtain⟨f0,f1,f2,f3,f4,f5,f6,f7,f8,f9⟩:=cN hcut.a;obtain⟨g0,g1,g2,g3,g4,g5,g6,g7,g8⟩:=cM hcut.m
   go_wp2_with fail
   have hz2:NdZ (fU M m.frm.toNat (aT M.mat m.frm.toNat+1)) ⟨lo,lc,vo,vc,some ⟨gx,0,none⟩,nc,some ⟨gm,0,none⟩,mc⟩:=hzM.ax _ _;have hd:RB wc wc.drew:=(Below.refl _ _).drew;have hD:=RS.next hcut hd;clear hd;have hw1:IntKind.i64.wrap (aT M.mat m.frm.toNat+1)=aT M.mat m.frm.toNat+1:=wi
   have hw280:IntKind.i64.wrap ((aT M.mat m.frm.toNat)+1)=((aT M.mat m.frm.toNat)+1):=wi
   refine bW (by kernel_rfl) (by kernel_rfl) (by kernel_rfl) RB rr rt
    [isV (.pointer (some ⟨w.heap.size,8,none⟩)),isV (.slice (some ⟨gx,0,none⟩) M.next.length nc),isV (.int .i64 m.frm),isV (.pointer (some ⟨w.heap.size,9,none⟩)),isV (.slice (some ⟨gm,0,none⟩) M.mat.length mc),isV (.int .i64 m.frm),isV (.pointer (some ⟨gm,m.frm.toNat,none⟩)),isV (.int .i64 (aT M.mat m.frm.toNat)),isV (.int .i64 ((aT M.mat m.frm.toNat)+1)),isV (.pointer (some ⟨gx,m.frm.toNat,none⟩))]
    ⟨iR,iR,iR,iR,iR,iR,iR,iR,iR,iR,trivial⟩ rfl ?_ _ rfl rfl rfl
    (fun v9 W9=>RS w base qb e0 (fU M m.frm.toNat (aT M.mat m.frm.toNat+1)) ⟨lo,lc,vo,vc,some ⟨gx,0,none⟩,nc,some ⟨gm,0,none⟩,mc⟩ m eo ec (⟨0,N.term,N.id,m.frm,0,0,[],0,false⟩:Ms) W9) ?_ ?_
   ·simp only[List.size_toArray,List.length_cons,List.length_nil,Nat.reduceAdd,Nat.reduceSub,List.take_succ_cons,List.take_zero]
    refine⟨?_,?_,?_,?_,?_,?_,?_,?_,?_,?_,trivial⟩
    ·exact ow 2
    ·exact oq rfl fun ev w9 v hR E pr=>by
      have e1:=E.eq pr 0 272;have cc:=(hD.a.next hR).cell (j:=8) (by omega);simp[lf,eB,fU]at cc;simp[go_sem,cc,e1]
    ·exact ow 18
    ·exact ow 2
    ·exact oq rfl fun ev w9 v hR E pr=>by
      have e1:=E.eq pr 3 275;have cc:=(hD.a.next hR).cell (j:=9) (by omega);simp[lf,eB,fU]at cc;simp[go_sem,cc,e1]
    ·exact ow 18
    ·exact oq rfl fun ev w9 v hR E pr=>by
      have e1:=E.eq pr 4 276;have e2:=E.eq pr 5 277;simp[go_sem,hfr0,hqm',e1,e2]
    ·exact oq rfl fun ev w9 v hR E pr=>by
      have e1:=E.eq pr 6 278;have cc:=OwI.cell4 (RS.next hD hR).o.m m.frm.toNat hqm;simp[go_sem,cc,e1]
    ·exact mQ 7 279 hw280
    ·exact oq rfl fun ev w9 v hR E pr=>by
      have e1:=E.eq pr 1 273;have e2:=E.eq pr 2 274;simp[go_sem,hfr0,hqx',e1,e2]
   ·intro ev w9 v hR E hp9
    obtain⟨_,_,_,_,_,_,_,_,p8,p9,_⟩:=hp9;have E1:=E.at_ 9 281 rfl (by kernel_rfl) (nb (by kernel_rfl));have E2:=E.at_ 8 280 rfl (by kernel_rfl) (nb (by kernel_rfl));rw[p9]at E1;rw[p8]at E2;have h9:=RS.next hD hR;exact⟨_,cI rfl E1 E2 (OwI.cells h9.o.x (by omega)) (by omega) (by kernel_rfl) rfl (dT rfl),h9.setX m.frm.toNat hqx _⟩
   ·intro v9 W9 h9
    simp only[List.size_toArray,List.length_cons,List.length_nil,Nat.reduceAdd,Nat.reduceSub,List.take_succ_cons,List.take_zero];rw[mF v9 _ 0 272]
    rotate_left
    ·kernel_rfl
    ·exact nb (by kernel_rfl)
    simp only[yU,List.length_cons,List.length_nil,List.take_succ_cons,List.take_zero,List.drop_succ_cons,List.drop_zero,List.cons_append,List.nil_append,Nat.reduceAdd,Nat.zero_add];clear hD;generalize hNX:(fU M m.frm.toNat (aT M.mat m.frm.toNat+1))=L at h9 HN hz2;have hcL:0<=L.commit:=by rw[<-hNX];exact hcM
    have hpL:1<=L.peers/\L.peers<=5:=by rw[<-hNX];exact hpM
    have hmL:(L.mat.length:Int)=L.peers:=by rw[<-hNX];exact hmM
    clear hNX
    go_wp2_with fail
    refine (gN L ⟨lo,lc,vo,vc,some ⟨gx,0,none⟩,nc,some ⟨gm,0,none⟩,mc⟩ hz2 w.heap.size hcL hpL hmL _ h9.a h9.o.M).mono ?_;rintro e w7 ⟨rfl,vC,gC⟩;have o5:=h9.o.gr gC (bA h9.a) (by decide) (by decide);have h7:=h9.putA vC ⟨o5.l,o5.v,o5.x,o5.m,o5.vx,o5.vm,o5.xm⟩ gC;clear o5 vC gC hz2 hcL hpL hmL;generalize G5 L=A at h7 HN;obtain⟨f0,f1,f2,f3,f4,f5,f6,f7,f8,f9⟩:=cN h7.a
    go_wp2_with (first|((with_reducible refine wB 27 (.tmp 4) (.tmp 283) (w.heap.size+1+1) (aJ (A) (⟨lo,lc,vo,vc,some ⟨gx,0,none⟩,nc,some ⟨gm,0,none⟩,mc⟩)) h7.r ?_);intro W9 hv9 hg9)|fail)
    obtain⟨q0,q1,q2,q3,q4,q5,q6,q7,q8,q9⟩:=cN hv9;exact bodyPost_ret (v:=.tuple #[aX A ⟨lo,lc,vo,vc,some ⟨gx,0,none⟩,nc,some ⟨gm,0,none⟩,mc⟩,.slice (some ⟨e0,0,none⟩) 0 0]) (by simp[results,Tryz.results37,go_sem,q0,q1,q2,q3,q4,q5,q6,q7,q8,q9]) rfl (by rw[HN.out,HL.out];exact⟨⟨lo,lc,vo,vc,some ⟨gx,0,none⟩,nc,some ⟨gm,0,none⟩,mc⟩,_,rfl,h7.o.gr hg9 (bA h7.r) (by decide) (by decide),kL (GOwn.gr h7.z hg9 (bA h7.r) (by decide)),h7.c.box hg9 (by omega)⟩)
theorem uR(n:Nd)(s:NdS)(hz:NdZ n s)(m:Ms)(eo:Option Addr)(ec:Nat)(hmz:MsZ m)(hB:bY n=true)(hix:-9223372036854775808<=m.index/\m.index<=9223372036854775807)(base:Nat)(w:World)(hbs:base<=w.heap.size)(hO:NdO w base n s)(hE:MsM w m eo ec)(hF:gV n m=false):Calls Tryz.prog 37 #[aX n s,eS m eo ec] w fun e w'=>ED base n [] w w' e:=by
 have hpe:=dW hB;have hb:=rt _ _ _ (rt _ _ _ (ra w (.cells (aJ n s).toArray 27)) (ra _ (.cells (bZ m eo ec).toArray 29))) (ra _ (.cells (aJ aU aP).toArray 27));have vA:NdB _ w.heap.size n s:=((aH w n s).next (ra _ (.cells (bZ m eo ec).toArray 29))).next (ra _ (.cells (aJ aU aP).toArray 27));have vM:MsB _ (w.alloc (.cells (aJ n s).toArray 27)).heap.size m eo ec:=(bJ (w.alloc (.cells (aJ n s).toArray 27)) m eo ec).next (ra _ (.cells (aJ aU aP).toArray 27));have vR:=aH ((w.alloc (.cells (aJ n s).toArray 27)).alloc (.cells (bZ m eo ec).toArray 29)) aU aP;rw[World.size_alloc]at vM;rw[World.size_alloc,World.size_alloc]at vR;have HE:Hid (∀ W,Ch base w W->LRow w 47 eo (dZ m.ents)->True):=fun _ _ _=>trivial
 replace hO:=hO.next hb;have hEn:=hE.e.next hb;have hEc:=hE.c;clear HE hE;go_enter Tryz.func37,Tryz.ntmps37;refine aW fun K0 hK0=>?_
 go_wp2;refine hK0.out _ _ ?_;clear hK0;generalize (((w.alloc _).alloc _).alloc _)=W at hb vA vM vR hO hEn ⊢;have hal:=ra W (.cells #[] 29);have hN0:GOwn (W.alloc (.cells #[] 29)) w.heap.size 29 9 (some ⟨W.heap.size,0,none⟩) 0 0 (lf (jV [])):=GOwn.from (GOwn.empty W 29 9 _) hb.size
 replace hb:=rt _ _ _ hb hal;replace vA:NdB (W.alloc (.cells #[] 29)) w.heap.size n s:=vn vA hal;replace vM:MsB (W.alloc (.cells #[] 29)) (w.heap.size+1) m eo ec:=vn vM hal;replace vR:NdB (W.alloc (.cells #[] 29)) (w.heap.size+1+1) aU aP:=vn vR hal;replace hO:=hO.next hal;replace hEn:=hEn.next hal;clear hal;obtain⟨f0,f1,f2,f3,f4,f5,f6,f7,f8,f9⟩:=cN vA;obtain⟨g0,g1,g2,g3,g4,g5,g6,g7,g8⟩:=cM vM
 go_wp2_with fail
 generalize hWb:W.heap.size=e0 at hN0 ⊢;clear hWb;generalize (W.alloc _)=W1 at hN0 hb vA vM vR hO hEn f0 f1 f2 f3 f4 f5 f6 f7 f8 f9 g0 g1 g2 g3 g4 g5 g6 g7 g8 ⊢;refine (gO n s m eo ec ⟨hpe.1,hpe.2.1⟩ hmz.l hmz.x _ hEn).mono ?_;rintro e w1 ⟨rfl,hb1⟩;replace hb:=rt _ _ _ hb hb1;replace vA:NdB w1 w.heap.size n s:=vn vA hb1;replace vM:MsB w1 (w.heap.size+1) m eo ec:=vn vM hb1;replace vR:NdB w1 (w.heap.size+1+1) aU aP:=vn vR hb1;replace hN0:=GOwn.next hN0 hb1;replace hO:=hO.next hb1;replace hEn:=hEn.next hb1;clear hb1 f0 f1 f2 f3 f4 f5 f6 f7 f8 f9 g0 g1 g2 g3 g4 g5 g6 g7 g8;have hC:Ch base w w1:=Ch.of_rb hb;rw[hF];clear hF hb;have hwsz:w.heap.size+1+1<w1.heap.size:=vR.lt;obtain⟨f0,f1,f2,f3,f4,f5,f6,f7,f8,f9⟩:=cN vA;obtain⟨g0,g1,g2,g3,g4,g5,g6,g7,g8⟩:=cM vM
 go_wp2_with (first|((with_reducible refine wB 27 (.tmp 4) (.tmp 24) (w.heap.size+1+1) (aJ (n) (s)) vR ?_);intro W9 hv9 hg9)|fail)
 obtain⟨q0,q1,q2,q3,q4,q5,q6,q7,q8,q9⟩:=cN hv9;exact bodyPost_ret (v:=.tuple #[aX n s,.slice (some ⟨e0,0,none⟩) 0 0]) (by simp[results,Tryz.results37,go_sem,q0,q1,q2,q3,q4,q5,q6,q7,q8,q9]) rfl ⟨s,_,rfl,hO.gr hg9 (bA vR) (by decide) (by decide),kL (GOwn.gr hN0 hg9 (bA vR) (by decide)),hC.box hg9 (by omega)⟩
theorem pR(n:Nd)(s:NdS)(hz:NdZ n s)(m:Ms)(eo:Option Addr)(ec:Nat)(hmz:MsZ m)(hB:bY n=true)(hix:-9223372036854775808<=m.index/\m.index<=9223372036854775807)(base:Nat)(w:World)(hbs:base<=w.heap.size)(hO:NdO w base n s)(hE:MsM w m eo ec):Calls Tryz.prog 37 #[aX n s,eS m eo ec] w fun e w'=>ED base (cK n m) (eT n m) w w' e:=by
 unfold cK eT;rcases bq (gV n m) with hF|hF
 rotate_left
 ·rw[if_neg (by rw[hF];simp),if_neg (by rw[hF];simp)]
  exact uR n s hz m eo ec hmz hB hix base w hbs hO hE hF
 rw[if_pos hF,if_pos hF]
 have hk:m.kind=1\/m.kind=2\/m.kind=3\/m.kind=4:=by
  simp only[gV,Bool.and_eq_true,decide_eq_true_eq]at hF;omega
 rcases hk with hk|hk|hk|hk
 ·exact uH n s hz m eo ec hmz hB hix base w hbs hO hE hk hF
 ·exact uO n s hz m eo ec hmz hB hix base w hbs hO hE hk hF
 ·exact uG n s hz m eo ec hmz hB hix base w hbs hO hE hk hF
 ·exact tY n s hz m eo ec hmz hB hix base w hbs hO hE hk hF
end
section
open Go.RowKit
attribute [local go_sem ↓] Go.wp_at_zero Go.wp_at_succ
def ByRow(w:World)(base:Nat)(ao:Option Addr)(n:Nat):Prop:=∀ k,k<n->∃ b o v,ao=some ⟨b,o,none⟩/\b<base/\w.cell? ⟨b,o+k,none⟩=some (.int .u8 v)/\0<=v/\v<=255
def U8(s:Value)(i h:Int)(j:Nat):Value:=if j=0 then s else if j=1 then .int .i64 i else .int .i64 h
structure CurAt(w:World)(base c:Nat)(ao:Option Addr)(n cap:Nat):Prop where
 ge:base<=c
 len:n<=4096
 by_:ByRow w base ao n
 cur:∃ i h:Int,0<=i/\i<=(n:Int)/\VHas w c 83 3 (U8 (.slice ao n cap) i h)
theorem ByRow.grown{w w':World}{base:Nat}{ao:Option Addr}{n x:Nat}(h:ByRow w base ao n)(hg:w.grownBy w' (some x))(hx:base<=x):ByRow w' base ao n:=fun k hk=>by
 obtain⟨b,o,v,e,hb,hc,hv⟩:=h k hk;exact⟨b,o,v,e,hb,hg.cell hc (by simp;omega),hv⟩
theorem ByRow.below{w w':World}{base:Nat}{ao:Option Addr}{n B:Nat}(h:ByRow w base ao n)(hb:Below B w w')(hB:base<=B):ByRow w' base ao n:=fun k hk=>by
 obtain⟨b,o,v,e,hlt,hc,hv⟩:=h k hk;exact⟨b,o,v,e,hlt,by rw[hb.cell (by simp;omega)];exact hc,hv⟩
theorem CurAt.lt{w:World}{base c:Nat}{ao:Option Addr}{n cap:Nat}(h:CurAt w base c ao n cap):c<w.heap.size:=by
 obtain⟨_,_,_,_,hv⟩:=h.cur;exact hv.lt
theorem CurAt.grown{w w':World}{base c x:Nat}{ao:Option Addr}{n cap:Nat}(h:CurAt w base c ao n cap)(hg:w.grownBy w' (some x))(hx:base<=x)(hne:c≠x):CurAt w' base c ao n cap:=by
 obtain⟨i,hh,h0,h1,hv⟩:=h.cur;exact⟨h.ge,h.len,h.by_.grown hg hx,i,hh,h0,h1,hv.grown hg (by simp;exact hne)⟩
theorem CurAt.next{w w':World}{base c:Nat}{ao:Option Addr}{n cap:Nat}(h:CurAt w base c ao n cap)(hb:Below w.heap.size w w'):CurAt w' base c ao n cap:=by
 obtain⟨i,hh,h0,h1,hv⟩:=h.cur;have:=h.ge;have:=hv.lt;exact⟨h.ge,h.len,h.by_.below hb (by omega),i,hh,h0,h1,hv.next hb⟩
theorem xH(y:Int):0<=bits .and .i64 y 255/\bits .and .i64 y 255<=255:=by
 have h:(BitVec.ofInt 64 y &&& BitVec.ofInt 64 255).toNat<=255:=by
  rw[BitVec.toNat_and];exact Nat.le_trans Nat.and_le_right (by decide)
 have e:bits .and .i64 y 255=IntKind.i64.wrap ((BitVec.ofInt 64 y &&& BitVec.ofInt 64 255).toNat:Int):=rfl;rw[e,IntKind.wrap_i64];omega
theorem CN{w:World}{c:Nat}{s:Value}{i h:Int}(hv:VHas w c 83 3 (U8 s i h))(h':Int):VHas (w.setCell ⟨c,2,none⟩ (.int .i64 h')) c 83 3 (U8 s i h'):=
 (hv.set 2 _).congr (fun j hj=>by
  have:j=0\/j=1\/j=2:=by omega
  rcases this with rfl|rfl|rfl<;>rfl)
theorem EM{w:World}{c:Nat}{s:Value}{i h:Int}(hv:VHas w c 83 3 (U8 s i h))(i':Int):VHas (w.setCell ⟨c,1,none⟩ (.int .i64 i')) c 83 3 (U8 s i' h):=
 (hv.set 1 _).congr (fun j hj=>by
  have:j=0\/j=1\/j=2:=by omega
  rcases this with rfl|rfl|rfl<;>rfl)
theorem kX(w:World)(n:Nat)(row:Option Nat):w.grownBy (w.drewN n) row:=⟨rfl,rfl,rfl,Nat.le_refl _,fun _ _ _=>rfl⟩
theorem jJ(base c:Nat)(ao:Option Addr)(n cap:Nat)(w:World)(hC:CurAt w base c ao n cap):
  Calls Tryz.prog 66 #[.pointer (some ⟨c,0,none⟩)] w fun e w'=>∃ x:Int,e=.returned (.int .i64 x)/\0<=x/\x<=255/\CurAt w' base c ao n cap/\w.grownBy w' (some c):=by
 obtain⟨hge,hlen,hby,i,h,hi0,hi1,hv⟩:=hC;have c0:w.cell? ⟨c,0,none⟩=some (.slice ao n cap):=hv.cell (by omega);have c1:w.cell? ⟨c,1,none⟩=some (.int .i64 i):=hv.cell (j:=1) (by omega);have c2:w.cell? ⟨c,2,none⟩=some (.int .i64 h):=hv.cell (j:=2) (by omega);have z1:=hv.frozen 1;have z2:=hv.frozen 2;obtain⟨k,rfl⟩:∃ k:Nat,i=(k:Int):=⟨i.toNat,by omega⟩
 have hg1:∀ v,w.grownBy (w.setCell ⟨c,2,none⟩ v) (some c):=fun v=>aC w c 2 v
 by_cases hk:k<n
 rotate_left
 ·have hk':¬ (k:Int)<(n:Int):=by omega
  go_enter Tryz.func66,Tryz.ntmps66;go_wp2
  go_quiet (fail)
  go_wp2
  go_quiet (fail)
  go_wp2;go_ret;refine⟨_,rfl,(xH _).1,(xH _).2,⟨hge,hlen,?_,(k:Int),wrap64 (wrap64 (h*6364136223846793005)+1442695040888963407),hi0,hi1,?_⟩,?_⟩
  ·exact ((hby.grown (hg1 _) hge).grown (kX _ _ _) hge).grown (kX _ _ _) hge
  ·exact ((CN hv _).of_block rfl).of_block rfl
  ·exact ((hg1 _).trans (kX _ _ _)).trans (kX _ _ _)
 have hk':(k:Int)<(n:Int):=by omega
 obtain⟨b,o,v,hao,hbb,hcb,hv0,hv1⟩:=hby k hk;subst hao;have hne:b≠c:=by omega
 have hk0:(0:Int)<=(k:Int):=by omega
 go_enter Tryz.func66,Tryz.ntmps66;go_wp2
 go_quiet (fail)
 go_wp2
 go_quiet (fail)
 go_wp2
 go_quiet (fail)
 go_wp2;go_ret;refine⟨_,rfl,(xH _).1,(xH _).2,⟨hge,hlen,?_,((k+1:Nat):Int),wrap64 (wrap64 (h*6364136223846793005)+1442695040888963407),by omega,by omega,?_⟩,?_⟩
 ·exact ((hby.grown (hg1 _) hge).grown (kX _ _ _) hge).grown (aC _ c 1 _) hge
 ·exact EM ((CN hv _).of_block rfl) _
 ·exact ((hg1 _).trans (kX _ _ _)).trans (aC _ c 1 _)
theorem aI(base c:Nat)(ao:Option Addr)(n cap:Nat)(m:Int)(hm0:1<=m)(hm:m<=256)(w:World)(hC:CurAt w base c ao n cap):
  Calls Tryz.prog 27 #[.pointer (some ⟨c,0,none⟩),.int .i64 m] w fun e w'=>∃ x:Nat,e=.returned (.int .i64 (x:Int))/\(x:Int)<m/\CurAt w' base c ao n cap/\w.grownBy w' (some c):=by
 have hm1:¬ m<=0:=by omega
 have hm2:m≠0:=by omega
 go_enter Tryz.func27,Tryz.ntmps27
 go_wp2_with (go_at_call 66;refine (jJ base c ao n cap _ hC).mono ?_;rintro e w1 ⟨x,rfl,hx0,hx1,hC1,hg1⟩)
 go_ret;refine⟨(x%m).toNat,?_,?_,hC1,hg1⟩
 ·have:=Int.emod_nonneg x hm2
  exact (congrArg (fun z=>Ending.returned (.int .i64 z)) (by omega))
 ·have h1:=Int.emod_nonneg x hm2
  have h2:=Int.emod_lt_of_pos x (show 0<m by omega);omega
theorem dA(base c:Nat)(ao:Option Addr)(n cap:Nat)(m:Int)(hm0:1<=m)(hm:m<=256)(w:World)(hC:CurAt w base c ao n cap):
  Calls Tryz.prog 25 #[.pointer (some ⟨c,0,none⟩),.int .i64 m] w fun e w'=>∃ b:Bool,e=.returned (.bool b)/\CurAt w' base c ao n cap/\w.grownBy w' (some c):=by
 go_enter Tryz.func25,Tryz.ntmps25
 go_wp2_with (go_at_call 27;refine (aI base c ao n cap m hm0 hm _ hC).mono ?_;rintro e w1 ⟨x,rfl,hx,hC1,hg1⟩)
 go_ret;exact⟨_,rfl,hC1,hg1⟩
end
section
open Go Go.RowKit
theorem qP{P:Program}{b n:Nat}{t:TypeId}(o:Nat):∀ (vs:List Value) (k:Nat) (W:World) (f:Nat->Value),VHas W b t n f->o+k+vs.length<=n->(∀ v∈vs,v.oneCell'=true)->(storeCells ⟨b,o,none⟩ vs k).run P W=.ok () (setL W b (o+k) vs)
 | [],k,W,f,_,_,_=>by simp[storeCells,setL]
 | v :: vs,k,W,f,h,hk,hv=>by
  have e1:(⟨b,o,none⟩:Addr).add k=⟨b,o+k,none⟩:=by rw[Addr.add_mid]
  have c1:=h.cell (j:=o+k) (by simp at hk;omega);have z1:=h.frozen (o+k);have ih:=qP (P:=P) o vs (k+1) _ _ (h.set (o+k) v) (by simp at hk;omega) (fun u hu=>hv u (List.mem_cons_of_mem _ hu))
  show Sem.run P (store ((⟨b,o,none⟩:Addr).add k) v >>= fun _=>storeCells ⟨b,o,none⟩ vs (k+1)) W = _
  rw[Sem.run_bind,e1,run_store P W _ v _ (hv v (List.mem_cons_self ..)),c1];simp only[z1];exact ih
theorem lV{P:Program}{o:Oper}{ev:Operand->Value}{ty:TypeId}{x y:Operand}{b k n:Nat}{t:TypeId}{f:Nat->Value}{W:World}(vs:List Value)(ho:o.op=.store ty x y)(hx:ev x=.pointer (some ⟨b,k,none⟩))(hy:ev y=.agg vs.toArray)(hb:VHas W b t n f)(hk:k+vs.length<=n)(hi:(P.info? ty).map (·.size)=some vs.length)(hv:∀ v∈vs,v.oneCell'=true):(execOp ev o).run P W=.ok .skip (setL W b k vs):=by
 have hrun:(storeVar ty ⟨b,k,none⟩ (.agg vs.toArray)).run P W=.ok () (setL W b k vs):=by
  cases hq:P.info? ty with
  | none=>simp[hq]at hi
  | some i=>
   have hs:i.size=vs.length:=by simpa[hq] using hi
   have hr:=qP (P:=P) k vs 0 W f hb (by omega) hv;simp[storeVar,sizeOf,typeInfo,hq,Value.cells,hs,hr]
 unfold execOp;simp only[ho,hx,hy,Instr.storeAt,Instr.sureAddr,Sem.run_bind,Sem.run_pure,Result.andThen_ok,hrun]
theorem GOwn.setL{base:Nat}{t:TypeId}{size g n cap:Nat}:∀ (vs:List Value) (k:Nat) (w:World) (f:Nat->Value),GOwn w base t size (some ⟨g,0,none⟩) n cap f->k+vs.length<=n*size->GOwn (Go.Proofs.YtbabakgjkloabaaGreatDoor.setL w g k vs) base t size (some ⟨g,0,none⟩) n cap (fun j=>if k<=j/\j<k+vs.length then lf vs (j-k) else f j)
 | [],k,w,f,h,_=>GOwn.congr h (fun j hj=>by rw[if_neg (fun q=>by simp at q;omega)])
 | v :: vs,k,w,f,h,hk=>by
  have h1:=GOwn.setL vs (k+1) _ _ (GOwn.set h k (by simp at hk;omega) v) (by simp at hk;omega);refine GOwn.congr h1 (fun j hj=>?_)
  by_cases e:j=k
  ·subst e
   rw[if_neg (by omega),if_pos rfl,if_pos (by simp),Nat.sub_self];rfl
  ·by_cases c:k+1<=j/\j<k+1+vs.length
   ·rw[if_pos c,if_pos (by simp;omega)]
    have:j-k=(j-(k+1))+1:=by omega
    rw[this];rfl
   ·rw[if_neg c,if_neg e,if_neg (by simp;omega)]
theorem M2:∀ (l:List Nq) (i:Nat) (z:Nq) (j:Nat),i<l.length->lf (mX (l.set i z)) j=if i*10<=j/\j<i*10+10 then lf (aJ z.n z.s) (j-i*10) else lf (mX l) j
 | [],i,z,j,h=>by simp at h
 | q :: r,0,z,j,h=>by
  simp only[sZ,mX,mT,List.length_cons,List.length_nil,Nat.zero_mul,Nat.zero_le,true_and,Nat.zero_add,Nat.sub_zero,Nat.reduceAdd]
  split<;>rfl
 | q :: r,i+1,z,j,h=>by
  simp only[ss,mX,mT,List.length_cons,List.length_nil,Nat.zero_add,Nat.reduceAdd]
  by_cases c:j<10
  ·rw[if_pos c,if_neg (by omega),if_pos c]
  ·rw[if_neg c,if_neg c,M2 r i z (j-10) (by simpa using h)]
   by_cases d:i*10<=j-10/\j-10<i*10+10
   ·rw[if_pos d,if_pos (by omega)]
    congr 1
    omega
   ·rw[if_neg d,if_neg (by omega)]
theorem I1:∀ {l:List Mq} {k j:Nat} {q:Mq},l[k]?=some q->j<9->(jV l)[k*9+j]?=(bZ q.m q.eo q.ec)[j]?
 | [],k,j,q,h,_=>by simp at h
 | p :: r,0,j,q,h,hj=>by
  obtain rfl:p=q:=by simpa using h
  simp only[jV,Nat.zero_mul,Nat.zero_add];rw[List.getElem?_append_left (by simpa using hj)]
 | p :: r,k+1,j,q,h,hj=>by
  have:=I1 (l:=r) (k:=k) (j:=j) (q:=q) (by simpa using h) hj;simp only[jV];rw[List.getElem?_append_right (by simp;omega),<-this]
  congr 1
  simp;omega
theorem bI{w:World}{l:List Mq}{b o k:Nat}{q:Mq}{t:TypeId}(h:LRow w t (some ⟨b,o,none⟩) (jV l))(hk:l[k]?=some q)(j:Nat)(hj:j<9):w.cell? ⟨b,o+k*9+j,none⟩=some (lf (bZ q.m q.eo q.ec) j):=by
 have hlt:k<l.length:=by
  rcases Nat.lt_or_ge k l.length with z|z
  ·exact z
  ·rw[List.getElem?_eq_none z]at hk;cases hk
 obtain⟨b',o',e,_,hc⟩:=h (fun z=>by have:=dX l;rw[z]at this;simp at this;omega);cases e;have e1:=I1 hk hj
 have e2:(bZ q.m q.eo q.ec)[j]?=some (lf (bZ q.m q.eo q.ec) j):=by
  have hj2:j<(bZ q.m q.eo q.ec).length:=hj;simp only[lf,List.getD_eq_getElem?_getD];rw[List.getElem?_eq_getElem hj2];rfl
 rw[e2]at e1;have:=hc _ _ e1;rw[<-Nat.add_assoc]at this;exact this
theorem iC{o:Oper}{ev:Operand->Value}{x:Operand}{g k cap base:Nat}{W:World}{l:List Nq}{z:Nq}(ho:o.op=.load 27 x)(hx:ev x=.pointer (some ⟨g,k*10,none⟩))(h:GOwn W base 27 10 (some ⟨g,0,none⟩) l.length cap (lf (mX l)))(hk:l[k]?=some z):(execOp ev o).run Tryz.prog W=.ok (.value (aX z.n z.s)) W:=by
 have hr:=GOwn.lrow h (nL l);have c0:=fV hr hk 0 (by omega);have c1:=fV hr hk 1 (by omega);have c2:=fV hr hk 2 (by omega);have c3:=fV hr hk 3 (by omega);have c4:=fV hr hk 4 (by omega);have c5:=fV hr hk 5 (by omega);have c6:=fV hr hk 6 (by omega);have c7:=fV hr hk 7 (by omega);have c8:=fV hr hk 8 (by omega);have c9:=fV hr hk 9 (by omega);simp[lf]at c0 c1 c2 c3 c4 c5 c6 c7 c8 c9;unfold execOp;simp[ho,hx,go_sem,c0,c1,c2,c3,c4,c5,c6,c7,c8,c9]
theorem qG{o:Oper}{ev:Operand->Value}{x:Operand}{g k cap base:Nat}{W:World}{l:List Mq}{z:Mq}(ho:o.op=.load 29 x)(hx:ev x=.pointer (some ⟨g,k*9,none⟩))(h:GOwn W base 29 9 (some ⟨g,0,none⟩) l.length cap (lf (jV l)))(hk:l[k]?=some z):(execOp ev o).run Tryz.prog W=.ok (.value (eS z.m z.eo z.ec)) W:=by
 have hr:=GOwn.lrow h (dX l);have c0:=bI hr hk 0 (by omega);have c1:=bI hr hk 1 (by omega);have c2:=bI hr hk 2 (by omega);have c3:=bI hr hk 3 (by omega);have c4:=bI hr hk 4 (by omega);have c5:=bI hr hk 5 (by omega);have c6:=bI hr hk 6 (by omega);have c7:=bI hr hk 7 (by omega);have c8:=bI hr hk 8 (by omega);simp[lf]at c0 c1 c2 c3 c4 c5 c6 c7 c8;unfold execOp;simp[ho,hx,go_sem,c0,c1,c2,c3,c4,c5,c6,c7,c8]
structure ClB(w:World)(b base:Nat)(l:List Nq)(q:List Mq)(ao:Option Addr)(cap:Nat)(eo:Option Addr)(ec:Nat):Prop where
 x:VHas w b 54 2 (lf [.slice ao l.length cap,.slice eo q.length ec])
 n:GOwn w base 27 10 ao l.length cap (lf (mX l))
 m:NetO w base eo ec q
 nl:∀ z∈l,NdO w base z.n z.s
structure ClP(l:List Nq)(q:List Mq):Prop where
 len:1<=l.length/\l.length<=5
 ok:∀ (i:Nat) (z:Nq),l[i]?=some z->OkN z.n/\z.n.id=i/\z.n.peers=l.length/\TxL z.n.log
 net:q.length<=200
 ms:∀ z∈q,MsW (l.length:Int) z.m
section
variable {w w':World} {b base cap ec:Nat} {l:List Nq} {q:List Mq} {ao eo:Option Addr}
theorem ClB.next(h:ClB w b base l q ao cap eo ec)(hb:RB w w'):ClB w' b base l q ao cap eo ec:=⟨vn h.x hb,GOwn.next h.n hb,h.m.next hb,fun z hz=>(h.nl z hz).next hb⟩
theorem NetO.gr{row:Option Nat}{u:TypeId}(h:NetO w base eo ec q)(hg:w.grownBy w' row)(hx:∀ x,row=some x->aG w x u)(h1:29≠u)(h2:47≠u):NetO w' base eo ec q:=⟨GOwn.gr h.o hg hx h1,fun z hz=>OwE.gr (h.e z hz) hg hx h2⟩
theorem ClB.gr{row:Option Nat}{u:TypeId}(h:ClB w b base l q ao cap eo ec)(hg:w.grownBy w' row)(hx:∀ x,row=some x->aG w x u)(h1:54≠u)(h2:27≠u)(h3:29≠u)(h4:47≠u)(h5:2≠u):ClB w' b base l q ao cap eo ec:=⟨VHas.gr h.x hg hx h1,GOwn.gr h.n hg hx h2,h.m.gr hg hx h3 h4,fun z hz=>(h.nl z hz).gr hg hx h4 h5⟩
theorem ClB.cur{c:Nat}(h:ClB w b base l q ao cap eo ec)(hg:w.grownBy w' (some c))(hx:aG w c 83):ClB w' b base l q ao cap eo ec:=h.gr hg (fun x e=>by cases e;exact hx) (by decide) (by decide) (by decide) (by decide) (by decide)
end
theorem OkN.zz{n:Nd}{s:NdS}(h:OkN n)(ht:TxL n.log)(k:NdK n s):NdZ n s:=by
 have hf:=h.few;exact⟨by omega,by omega,by omega,by omega,k.l,k.v,k.x,k.m,ht⟩
theorem ClP.put{l:List Nq}{q:List Mq}(h:ClP l q){i:Nat}{z:Nq}(z':Nq)(hz:l[i]?=some z)(h1:OkN z'.n)(h2:z'.n.id=z.n.id)(h3:z'.n.peers=z.n.peers)(h4:TxL z'.n.log):ClP (l.set i z') q:=by
 refine⟨by rw[List.length_set];exact h.len,fun k y hy=>?_,h.net,by rw[List.length_set];exact h.ms⟩;rw[List.length_set];rw[List.getElem?_set]at hy
 split at hy
 ·next e=>
  split at hy
  ·subst e
   obtain rfl:=oI hy;obtain⟨_,g2,g3,_⟩:=h.ok i z hz;exact⟨h1,h2.trans g2,h3.trans g3,h4⟩
  ·cases hy
 ·exact h.ok k y hy
theorem lW{l:List Nq}{i:Nat}(h:i<l.length):∃ z,l[i]?=some z:=⟨l[i],by simp[h]⟩
theorem ClB.put{w:World}{b base cap ec g:Nat}{l:List Nq}{q:List Mq}{eo:Option Addr}(h:ClB w b base l q (some ⟨g,0,none⟩) cap eo ec){i:Nat}(hi:i<l.length)(z':Nq)(hz':NdO w base z'.n z'.s):ClB (setL w g (i*10) (aJ z'.n z'.s)) b base (l.set i z') q (some ⟨g,0,none⟩) cap eo ec:=by
 have hg:=bP g (aJ z'.n z'.s) (i*10) w;have hT:∀ x,some g=some x->aG w x 27:=fun x e=>GOwn.typed h.n (x:=x) (by cases e;rfl)
 refine⟨by rw[List.length_set];exact VHas.gr h.x hg hT (by decide),?_,h.m.gr hg hT (by decide) (by decide),fun y hy=>?_⟩
 ·rw[List.length_set]
  refine GOwn.congr (GOwn.setL (aJ z'.n z'.s) (i*10) w _ h.n (by show i*10+10<=l.length*10;omega)) (fun j hj=>?_);exact (M2 l i z' j hi).symm
 ·rcases List.mem_or_eq_of_mem_set hy with hy|rfl
  ·exact (h.nl y hy).gr hg hT (by decide) (by decide)
  ·exact hz'.gr hg hT (by decide) (by decide)
end
section
open Go Go.RowKit
attribute [local go_sem ↓] Go.wp_at_zero Go.wp_at_succ
theorem tC(m:Ms)(eo:Option Addr)(ec:Nat)(hl:m.ents.length<=1048576)(w:World)(hE:LRow w 47 eo (dZ m.ents)):Calls Tryz.prog 98 #[eS m eo ec] w fun e w'=>MgV w.heap.size m (match e with | .returned v=>v|_=>undef) w'/\(∃ v,e=.returned v)/\RB w w':=by
 have hb:=rt _ _ _ (ra w (.cells (bZ m eo ec).toArray 29)) (ra _ (.cells (bZ gW none 0).toArray 29));have vA:MsB _ w.heap.size m eo ec:=vn (bJ w m eo ec) (ra _ (.cells (bZ gW none 0).toArray 29));have vR:=bJ (w.alloc (.cells (bZ m eo ec).toArray 29)) gW none 0;rw[World.size_alloc]at vR;go_enter Tryz.func98,Tryz.ntmps98;refine aW fun K0 hK0=>?_
 go_wp2;refine hK0.out _ _ ?_;clear hK0;have hsR:w.heap.size+1 < _:=vR.lt;generalize ((w.alloc _).alloc _)=W0 at hb vA vR hsR ⊢;have hal:=ra W0 (.cells #[] 47);have hE0:GOwn (W0.alloc (.cells #[] 47)) W0.heap.size 47 2 (some ⟨W0.heap.size,0,none⟩) 0 0 (fun _=>undef):=GOwn.empty W0 47 2 _;have wA:MsB (W0.alloc (.cells #[] 47)) w.heap.size m eo ec:=vn vA hal;have wR:MsB (W0.alloc (.cells #[] 47)) (w.heap.size+1) gW none 0:=vn vR hal;have wb:=rt _ _ _ hb hal;have hr:GRow (W0.alloc (.cells #[] 47)) eo (m.ents.length*2) (lf (dZ m.ents)):=LRow.g (hE.next wb) (by rw[dE]);have hsz:W0.heap.size<=(W0.alloc (.cells #[] 47)).heap.size:=hal.size;obtain⟨g0,g1,g2,g3,g4,g5,g6,g7,g8⟩:=cM wA
 go_wp2_with (first|(at_builtin;(with_reducible refine iM rfl (.tmp 3) (.tmp 5) Tryz.elEnQ rfl 6 rfl W0.heap.size W0.heap.size _ (by simp[go_sem]) hE0 eo m.ents.length ec (lf (dZ m.ents)) (by simp[go_sem]) hr (yM m.ents) (by omega) hsz ?_);intro ao cap U hO hg;have xA:MsB U w.heap.size m eo ec:=VHas.grown wA hg (fun e=>by have:=oI e;omega);have xR:MsB U (w.heap.size+1) gW none 0:=VHas.grown wR hg (fun e=>by have:=oI e;omega);have xb:=aV wb hg (by omega))|((with_reducible refine wC 24 (.tmp 7) (.tmp 6) w.heap.size 6 (.slice ao m.ents.length cap) xA ?_);intro X e6;have yA:MsB X w.heap.size m ao cap:=(by subst e6;exact MsB.put xA 6 (by omega) _ (by kernel_rfl));have hx:U.grownBy X (some w.heap.size):=(by subst e6;exact aC _ _ _ _);have yR:MsB X (w.heap.size+1) gW none 0:=VHas.grown xR hx (fun e=>by have:=oI e;omega);have yO:GOwn X W0.heap.size 47 2 ao m.ents.length cap (lf (dZ m.ents)):=GOwn.gr hO hx (fun z e=>by cases e;exact VHas.typed xA) (by decide);have yb:=aV xb hx nl;clear e6 g0 g1 g2 g3 g4 g5 g6 g7 g8;obtain⟨g0,g1,g2,g3,g4,g5,g6,g7,g8⟩:=cM yA)|((with_reducible refine wB 29 (.tmp 2) (.tmp 8) (w.heap.size+1) (bZ m ao cap) yR ?_);intro W9 hv9 hg9)|fail)
 clear g0 g1 g2 g3 g4 g5 g6 g7 g8;obtain⟨g0,g1,g2,g3,g4,g5,g6,g7,g8⟩:=VHas.c9 hv9 (by simp);simp[lf]at g0 g1 g2 g3 g4 g5 g6 g7 g8;refine bodyPost_ret (v:=eS m ao cap) (by simp[results,Tryz.results98,go_sem,g0,g1,g2,g3,g4,g5,g6,g7,g8]) rfl ?_;have hs0:w.heap.size<=W0.heap.size:=hb.size;exact⟨⟨ao,cap,rfl,GOwn.from (GOwn.gr yO hg9 (fun z e=>by cases e;exact VHas.typed yR) (by decide)) hs0⟩,⟨_,rfl⟩,aV yb hg9 (by omega)⟩
end
end Go.Proofs.YtbabakgjkloabaaGreatDoor
