/-
  Helpers: Sr2, Srq, Sr3.
-/
import Derived.Test.YtbabakgjkloabaaGreatDoorPack18
set_option linter.unusedVariables false
set_option linter.unusedSimpArgs false
set_option maxRecDepth 100000
set_option maxHeartbeats 16000000
namespace Go.Proofs.YtbabakgjkloabaaGreatDoor
section
open Go Go.RowKit
attribute [local go_sem ↓] Go.wp_at_zero Go.wp_at_succ
theorem uO(n:Nd)(s:NdS)(hz:NdZ n s)(m:Ms)(eo:Option Addr)(ec:Nat)(hmz:MsZ m)(hB:bY n=true)(hix:-9223372036854775808<=m.index/\m.index<=9223372036854775807)(base:Nat)(w:World)(hbs:base<=w.heap.size)(hO:NdO w base n s)(hE:MsM w m eo ec)(hk:m.kind=2)(hF:gV n m=true):Calls Tryz.prog 37 #[aX n s,eS m eo ec] w fun e w'=>ED base (gE (rc1 n m) m) (iQ (rc1 n m) m) w w' e:=by
 have hpe:=dW hB;replace hk:Hid (m.kind=2):=hk;have hb:=rt _ _ _ (rt _ _ _ (ra w (.cells (aJ n s).toArray 27)) (ra _ (.cells (bZ m eo ec).toArray 29))) (ra _ (.cells (aJ aU aP).toArray 27));have vA:NdB _ w.heap.size n s:=((aH w n s).next (ra _ (.cells (bZ m eo ec).toArray 29))).next (ra _ (.cells (aJ aU aP).toArray 27));have vM:MsB _ (w.alloc (.cells (aJ n s).toArray 27)).heap.size m eo ec:=(bJ (w.alloc (.cells (aJ n s).toArray 27)) m eo ec).next (ra _ (.cells (aJ aU aP).toArray 27));have vR:=aH ((w.alloc (.cells (aJ n s).toArray 27)).alloc (.cells (bZ m eo ec).toArray 29)) aU aP;rw[World.size_alloc]at vM;rw[World.size_alloc,World.size_alloc]at vR;have HE:Hid (∀ W,Ch base w W->LRow w 47 eo (dZ m.ents)->True):=fun _ _ _=>trivial
 replace hO:=hO.next hb;have hEn:=hE.e.next hb;have hEc:=hE.c;clear HE hE;go_enter Tryz.func37,Tryz.ntmps37;refine aW fun K0 hK0=>?_
 go_wp2;refine hK0.out _ _ ?_;clear hK0;generalize (((w.alloc _).alloc _).alloc _)=W at hb vA vM vR hO hEn ⊢;have hal:=ra W (.cells #[] 29);have hN0:GOwn (W.alloc (.cells #[] 29)) w.heap.size 29 9 (some ⟨W.heap.size,0,none⟩) 0 0 (lf (jV [])):=GOwn.from (GOwn.empty W 29 9 _) hb.size
 replace hb:=rt _ _ _ hb hal;replace vA:=vn vA hal;replace vM:=vn vM hal;replace vR:=vn vR hal;replace hO:=hO.next hal;replace hEn:=hEn.next hal;clear hal;obtain⟨f0,f1,f2,f3,f4,f5,f6,f7,f8,f9⟩:=cN vA;obtain⟨g0,g1,g2,g3,g4,g5,g6,g7,g8⟩:=cM vM
 go_wp2_with fail
 generalize W.heap.size=e0 at hN0 ⊢;generalize (W.alloc _)=W1 at hN0 hb vA vM vR hO hEn f0 f1 f2 f3 f4 f5 f6 f7 f8 f9 g0 g1 g2 g3 g4 g5 g6 g7 g8 ⊢;refine (gO n s m eo ec ⟨hpe.1,hpe.2.1⟩ hmz.l hmz.x _ hEn).mono ?_;rintro e w1 ⟨rfl,hb1⟩;replace hb:=rt _ _ _ hb hb1;replace vA:NdB w1 w.heap.size n s:=vn vA hb1;replace vM:MsB w1 (w.heap.size+1) m eo ec:=vn vM hb1;replace vR:NdB w1 (w.heap.size+1+1) aU aP:=vn vR hb1;replace hN0:=GOwn.next hN0 hb1;replace hO:=hO.next hb1;replace hEn:=hEn.next hb1;clear hb1 f0 f1 f2 f3 f4 f5 f6 f7 f8 f9 g0 g1 g2 g3 g4 g5 g6 g7 g8;have hC:Ch base w w1:=Ch.of_rb hb;have hwsz:w.heap.size+1+1<w1.heap.size:=vR.lt;clear hb;rw[hF];have hff:=hF;simp only[gV,Bool.and_eq_true]at hff
 have hfr:0<=m.frm/\m.frm<n.peers:=by
  have:=hff.2.2.1;simpa[dS] using this
 have hmt:1<=m.term/\m.term<=100000:=⟨of_decide_eq_true hff.2.2.2.2.2.1,of_decide_eq_true hff.2.2.2.2.2.2.1⟩
 clear hff hF;obtain⟨f0,f1,f2,f3,f4,f5,f6,f7,f8,f9⟩:=cN vA;obtain⟨g0,g1,g2,g3,g4,g5,g6,g7,g8⟩:=cM vM
 go_upto_if 30 with fail
 go_cut [] from 19 to 32 (fun wc=>∃ N s2,NdB wc w.heap.size N s2/\MsB wc (w.heap.size+1) m eo ec/\NdB wc (w.heap.size+1+1) aU aP/\NdO wc base N s2/\GOwn wc w.heap.size 29 9 (some ⟨e0,0,none⟩) 0 0 (lf (jV []))/\Ch base w wc/\LRow wc 47 eo (dZ m.ents)/\rc1 n m=N/\NkR N/\NdZ N s2/\N.peers=n.peers)
 case first=>
  by_cases hup:n.term<m.term
  ·have hrc:rc1 n m=(lJ n m.term):=if_pos hup
   go_wp2_with (first|((with_reducible refine wN 2 (.tmp 33) (.tmp 32) (w.heap.size) 2 (.int .i64 m.term) ((⟨n.id,n.peers,m.term,n.vote,n.log,n.role,n.commit,n.votes,n.next,n.mat⟩:Nd)) (s) vA ?_);intro Wa va ga)|((with_reducible refine cG rfl 2 (.tmp 34) (.const (.int .i64 (-1))) rfl rfl (w.heap.size) 3 (.int .i64 (-1)) (by simp[go_sem]) (by simp[go_sem]) ((⟨n.id,n.peers,m.term,-1,n.log,n.role,n.commit,n.votes,n.next,n.mat⟩:Nd)) (s) va (by omega) (by kernel_rfl) (by kernel_rfl) (dT (by kernel_rfl)) (by kernel_rfl) ?_);intro Wb vb gb)|fail)
   clear f0 f1 f2 f3 f4 f5 f6 f7 f8 f9 g0 g1 g2 g3 g4 g5 g6 g7 g8;have hOb:=(hO.gr ga (bA vA) (by decide) (by decide)).gr gb (bA va) (by decide) (by decide);have vMb:MsB Wb (w.heap.size+1) m eo ec:=VHas.grown (VHas.grown vM ga (fun e=>by have:=oI e;omega)) gb (fun e=>by have:=oI e;omega);have vRb:NdB Wb (w.heap.size+1+1) aU aP:=VHas.grown (VHas.grown vR ga (fun e=>by have:=oI e;omega)) gb (fun e=>by have:=oI e;omega);have hNb:=GOwn.gr (GOwn.gr hN0 ga (bA vA) (by decide)) gb (bA va) (by decide);have hEb:=(hEn.gr ga (bA vA) (by decide)).gr gb (bA va) (by decide);have hCb:=(hC.box ga nl).box gb nl;have hO2:NdO Wb base (⟨n.id,n.peers,m.term,-1,n.log,n.role,n.commit,n.votes,n.next,n.mat⟩:Nd) s:=⟨hOb.l,hOb.v,hOb.x,hOb.m,hOb.vx,hOb.vm,hOb.xm⟩
   clear hO vM vR hN0 hEn hC ga vA va hOb;refine (fB (⟨n.id,n.peers,m.term,-1,n.log,n.role,n.commit,n.votes,n.next,n.mat⟩:Nd) s w.heap.size base _ (Nat.le_trans hbs hCb.size) vb hO2).mono ?_;rintro e w2 ⟨rfl,s2,vA,hO,gA⟩;have eU:bV (⟨n.id,n.peers,m.term,-1,n.log,n.role,n.commit,n.votes,n.next,n.mat⟩:Nd)=(lJ n m.term):=rfl;rw[eU]at vA hO;have vM:MsB w2 (w.heap.size+1) m eo ec:=VHas.grown vMb gA (fun e=>by have:=oI e;omega);have vR:NdB w2 (w.heap.size+1+1) aU aP:=VHas.grown vRb gA (fun e=>by have:=oI e;omega);have hN0:=GOwn.gr hNb gA (bA vb) (by decide);have hEn:=hEb.gr gA (bA vb) (by decide);have hC:=hCb.box gA nl;have hzU:=sF (kK hB hmt) hO hz.l hz.tx (by simp[lJ]) (by simp[lJ]) (by simp[lJ]);clear vMb vRb hNb hEb hCb hO2 vb gb gA hup eU;go_wp2
   go_meet
   case rel=>exact⟨(lJ n m.term),s2,vA,vM,vR,hO,hN0,hC,hEn,hrc,kK hB hmt,hzU,rfl⟩
  ·go_wp2
   go_meet
   case rel=>exact⟨n,s,vA,vM,vR,hO,hN0,hC,hEn,if_neg (by omega),pZ hB,hz,rfl⟩
 case rest=>
  clear vA vM vR hO hN0 hC hEn hwsz f0 f1 f2 f3 f4 f5 f6 f7 f8 f9 g0 g1 g2 g3 g4 g5 g6 g7 g8;obtain⟨N,s2,vA,vM,vR,hO,hN0,hC,hEn,hrc,hBN,hzN,hNp⟩:=hcut;have hwsz:w.heap.size+1+1<wc.heap.size:=vR.lt;replace hrc:Hid (rc1 n m=N):=hrc;replace hBN:Hid (NkR N):=hBN;replace hNp:Hid (N.peers=n.peers):=hNp;obtain⟨lo,lc,vo,vc,no,nc,mo,mc⟩:=s2;obtain⟨f0,f1,f2,f3,f4,f5,f6,f7,f8,f9⟩:=cN vA;obtain⟨g0,g1,g2,g3,g4,g5,g6,g7,g8⟩:=cM vM;have hal:=ra wc (.cells (bZ gW none 0).toArray 29);have h0:RS w base wc.heap.size e0 N ⟨lo,lc,vo,vc,no,nc,mo,mc⟩ m eo ec gW (wc.alloc (.cells (bZ gW none 0).toArray 29)):=⟨vn vA hal,vn vM hal,vn vR hal,bJ wc gW none 0,hO.next hal,GOwn.next hN0 hal,hC.trans (Ch.of_rb hal),vR.lt,(GOwn.at hN0 rfl).2⟩
  replace hEn:=hEn.next hal;clear hal vA vM vR hN0 hC hO
  go_upto_if 48 with (first|((with_reducible refine wB 29 (.tmp 8) (.tmp 45) wc.heap.size (bZ (⟨0,N.term,N.id,m.frm,0,0,[],0,false⟩:Ms) none 0) h0.q ?_);intro W2 vQ2 gQ;have h1:RS w base wc.heap.size e0 N ⟨lo,lc,vo,vc,no,nc,mo,mc⟩ m eo ec (⟨0,N.term,N.id,m.frm,0,0,[],0,false⟩:Ms) W2:=h0.putQ vQ2 gQ;have hEn1:=hEn.gr gQ (fun x e=>by cases e;exact h0.q.typed) (by decide);clear f0 f1 f2 f3 f4 f5 f6 f7 f8 f9 g0 g1 g2 g3 g4 g5 g6 g7 g8 gQ vQ2;obtain⟨f0,f1,f2,f3,f4,f5,f6,f7,f8,f9⟩:=cN h1.a;obtain⟨g0,g1,g2,g3,g4,g5,g6,g7,g8⟩:=cM h1.m)|fail)
  generalize wc.heap.size=qb at h1 hwsz ⊢;clear h0 hEn
  have k1:(m.kind==1)=false:=by rw[hk.out];rfl
  have k2:(m.kind==2)=true:=by rw[hk.out];rfl
  by_cases r2:N.role=2
  rotate_left
  ·have r2':(N.role != 2)=true:=by simp[r2]
   have HN:Hid (gE (rc1 n m) m=N):=by show _ = _;rw[hrc.out];simp[gE,hk.out,rG,tU,r2]
   have HL:Hid (iQ (rc1 n m) m=[]):=by show _ = _;rw[hrc.out];simp[iQ,hk.out,wZ,tU,r2]
   clear r2
   go_wp2_with (first|((with_reducible refine wB 27 (.tmp 4) (.tmp 101) (w.heap.size+1+1) (aJ (N) (⟨lo,lc,vo,vc,no,nc,mo,mc⟩)) h1.r ?_);intro W9 hv9 hg9)|fail)
   obtain⟨q0,q1,q2,q3,q4,q5,q6,q7,q8,q9⟩:=cN hv9;exact bodyPost_ret (v:=.tuple #[aX N ⟨lo,lc,vo,vc,no,nc,mo,mc⟩,.slice (some ⟨e0,0,none⟩) 0 0]) (by simp[results,Tryz.results37,go_sem,q0,q1,q2,q3,q4,q5,q6,q7,q8,q9]) rfl (by rw[HN.out,HL.out];exact⟨⟨lo,lc,vo,vc,no,nc,mo,mc⟩,_,rfl,h1.o.gr hg9 (bA h1.r) (by decide) (by decide),kL (GOwn.gr h1.z hg9 (bA h1.r) (by decide)),h1.c.box hg9 (by omega)⟩)
  have r2':(N.role != 2)=false:=by simp[r2]
  by_cases b1:m.term=N.term
  rotate_left
  ·have b1':(m.term != N.term)=true:=by simp[b1]
   have HN:Hid (gE (rc1 n m) m=N):=by show _ = _;rw[hrc.out];simp[gE,hk.out,rG,tU,r2,b1]
   have HL:Hid (iQ (rc1 n m) m=[]):=by show _ = _;rw[hrc.out];simp[iQ,hk.out,wZ,tU,r2,b1]
   clear r2 b1
   go_wp2_with (first|((with_reducible refine wB 27 (.tmp 4) (.tmp 101) (w.heap.size+1+1) (aJ (N) (⟨lo,lc,vo,vc,no,nc,mo,mc⟩)) h1.r ?_);intro W9 hv9 hg9)|fail)
   obtain⟨q0,q1,q2,q3,q4,q5,q6,q7,q8,q9⟩:=cN hv9;exact bodyPost_ret (v:=.tuple #[aX N ⟨lo,lc,vo,vc,no,nc,mo,mc⟩,.slice (some ⟨e0,0,none⟩) 0 0]) (by simp[results,Tryz.results37,go_sem,q0,q1,q2,q3,q4,q5,q6,q7,q8,q9]) rfl (by rw[HN.out,HL.out];exact⟨⟨lo,lc,vo,vc,no,nc,mo,mc⟩,_,rfl,h1.o.gr hg9 (bA h1.r) (by decide) (by decide),kL (GOwn.gr h1.z hg9 (bA h1.r) (by decide)),h1.c.box hg9 (by omega)⟩)
  have b1':(m.term != N.term)=false:=by simp[b1]
  rcases bq m.yes with hy|hy
  rotate_left
  ·skip
   have HN:Hid (gE (rc1 n m) m=N):=by show _ = _;rw[hrc.out];simp[gE,hk.out,rG,tU,r2,b1,hy]
   have HL:Hid (iQ (rc1 n m) m=[]):=by show _ = _;rw[hrc.out];simp[iQ,hk.out,wZ,tU,r2,b1,hy]
   clear r2 b1
   go_wp2_with (first|((with_reducible refine wB 27 (.tmp 4) (.tmp 101) (w.heap.size+1+1) (aJ (N) (⟨lo,lc,vo,vc,no,nc,mo,mc⟩)) h1.r ?_);intro W9 hv9 hg9)|fail)
   obtain⟨q0,q1,q2,q3,q4,q5,q6,q7,q8,q9⟩:=cN hv9;exact bodyPost_ret (v:=.tuple #[aX N ⟨lo,lc,vo,vc,no,nc,mo,mc⟩,.slice (some ⟨e0,0,none⟩) 0 0]) (by simp[results,Tryz.results37,go_sem,q0,q1,q2,q3,q4,q5,q6,q7,q8,q9]) rfl (by rw[HN.out,HL.out];exact⟨⟨lo,lc,vo,vc,no,nc,mo,mc⟩,_,rfl,h1.o.gr hg9 (bA h1.r) (by decide) (by decide),kL (GOwn.gr h1.z hg9 (bA h1.r) (by decide)),h1.c.box hg9 (by omega)⟩)
  have HA:Hid (gE (rc1 n m) m=if fM N.peers (tS N.peers.toNat N.votes m.frm).length=true then eJ (mL N m.frm) else (mL N m.frm)):=by show _ = _;rw[hrc.out];simp[gE,hk.out,rG,tU,r2,b1,hy]
  have HB:Hid (iQ (rc1 n m) m=if fM N.peers (tS N.peers.toNat N.votes m.frm).length=true then wJ (mL N m.frm) else []):=by show _ = _;rw[hrc.out];simp[iQ,hk.out,wZ,tU,r2,b1,hy]
  have hb1:Hid (m.term=N.term):=b1;clear b1 r2;have hpp:=hBN.out.p;have hvz:=hzN.v
  go_wp2_with fail
  clear f0 f1 f2 f3 f4 f5 f6 f7 f8 f9 g0 g1 g2 g3 g4 g5 g6 g7 g8;have hal2:=ra W2 (.cells #[] 2);have hL0:OwI (W2.alloc (.cells #[] 2)) W2.heap.size (some ⟨W2.heap.size,0,none⟩) 0 (tS 0 N.votes m.frm):=GOwn.empty _ _ _ _;obtain⟨P,hPe⟩:∃ P:Nat,P=N.peers.toNat:=⟨_,rfl⟩
  have hPN:Hid (N.peers=(P:Int)):=by show _ = _;omega
  have hP5:P<=5:=by omega
  rw[<-hPe]at HA HB;clear hPe
  go_loopw [9,10,11,12] (fun x9 x10 x11 x12 wr=>∃ p:Nat,p<=P/\GD W2.heap.size (tS p N.votes m.frm) x9 wr/\x10=.int .i64 (p:Int)/\RB W2 wr) (fun _ x _ _ _=>P-(intOf x).toNat)
  case atStart=>exact⟨0,Nat.zero_le _,⟨_,_,rfl,hL0⟩,rfl,hal2⟩
  case round=>
   clear hL0 hal2;obtain⟨p,hpP,⟨ao,cap,rfl,hO⟩,rfl,hR⟩:=hrel;have h3:=RS.next h1 hR;obtain⟨f0,f1,f2,f3,f4,f5,f6,f7,f8,f9⟩:=cN h3.a;obtain⟨g0,g1,g2,g3,g4,g5,g6,g7,g8⟩:=cM h3.m;have hLl:(tS p N.votes m.frm).length<=5:=Nat.le_trans (BJ _ _ _) (by omega)
   by_cases hlt:p<P
   ·have hltp:(p:Int)<N.peers:=by have:=hPN.out;omega
    have hst:=U6 p N.votes m.frm;generalize (tS p N.votes m.frm)=l at hO hst hLl ⊢;replace hst:Hid _:=hst;go_wp2;clear f0 f1 f2 f3 f4 f5 f6 f7 f8 f9 g0 g1 g2 g3 g4 g5 g6 g7 g8 hltp
    go_loopw [11,12] (fun x11 x12 wz=>∃ i:Nat,i<=N.votes.length/\x11=.bool (((p:Int)==m.frm)||(N.votes.take i).contains (p:Int))/\x12=.int .i64 (i:Int)/\RB wr wz) (fun _ x _=>N.votes.length-(intOf x).toNat)
    case atStart=>exact⟨0,Nat.zero_le _,by simp,rfl,rr _⟩
    case round=>
     obtain⟨i,hi,rfl,rfl,hR2⟩:=hrel;have h4:=RS.next h3 hR2;have hO4:=OwI.next hO hR2;obtain⟨f0,f1,f2,f3,f4,f5,f6,f7,f8,f9⟩:=cN h4.a;obtain⟨g0,g1,g2,g3,g4,g5,g6,g7,g8⟩:=cM h4.m
     by_cases hlti:i<N.votes.length
     ·have hct:=tZ (p:=(p:Int)) hlti
      obtain⟨vb,vq,ev,_,hcv⟩:=h4.o.M.v (fun q=>by
       have:=cO N.votes;have q':cU N.votes=[]:=q;rw[q']at this;simp at this
       omega)
      have ev':vo=some ⟨vb,vq,none⟩:=ev;subst ev';have cv:=hcv _ _ (fZ hlti);generalize (N.votes.take i).contains (p:Int)=b2 at hct ⊢;generalize ((p:Int)==m.frm)=b3;generalize aT N.votes i=x at cv hct;have hlti':(i:Int)<(N.votes.length:Int):=by omega
      have hi0:(0:Int)<=(i:Int):=by omega
      have hwi:IntKind.i64.wrap ((i:Int)+1)=(i:Int)+1:=wi
      replace hct:Hid _:=hct;cases b3
      ·cases b2
       ·rw[Bool.or_false]
        go_wp2
        go_roundw
        case rel=>exact⟨i+1,by omega,by rw[hct.out];simp,by go_num,hR2⟩
        case measure=>simp[intOf];omega
       ·rw[Bool.or_true]
        go_wp2
        go_roundw
        case rel=>exact⟨i+1,by omega,by rw[hct.out];simp,by go_num,hR2⟩
        case measure=>simp[intOf];omega
      ·rw[Bool.true_or]
       go_wp2
       go_roundw
       case rel=>exact⟨i+1,by omega,by simp,by go_num,hR2⟩
       case measure=>simp[intOf];omega
     have hii:i=N.votes.length:=by omega
     have hge:¬ ((i:Int)<(N.votes.length:Int)):=by omega
     rw[hii,List.take_length,<-hii];have hwp:IntKind.i64.wrap ((p:Int)+1)=(p:Int)+1:=wi
     have hR24:=rt _ _ _ hR hR2;generalize (((p:Int)==m.frm)||N.votes.contains (p:Int))=b5 at hst ⊢;cases b5
     ·go_wp2
      go_roundw
      case rel=>
       have hli:GD W2.heap.size (tS (p+1) N.votes m.frm) (.slice ao l.length cap) wr:=⟨ao,cap,by rw[hst.out];simp,by rw[hst.out];simpa using hO4⟩
       first
       | exact⟨p+1,by omega,hli,by go_num,hR24⟩
       | exact⟨p+1,by omega,hli,by go_num⟩
      case measure=>simp[intOf];omega
     ·have hal5:=ra wr (.cells #[.int .i64 (p:Int)] 2)
      have hO5:GOwn (wr.alloc (.cells #[.int .i64 (p:Int)] 2)) W2.heap.size 2 1 ao l.length cap (lf (cU l)):=hO4.next hal5;have hR5:=rt _ _ _ hR24 hal5;have hsz5:W2.heap.size<=(wr.alloc (.cells #[.int .i64 (p:Int)] 2)).heap.size:=hR5.size;have hl5:l.length+1<=100000000:=by omega
      go_wp2_with (first|(at_builtin;with_reducible refine gF rfl (.tmp 132) (.tmp 134) Tryz.elIQ rfl 135 rfl W2.heap.size _ ao l.length cap (by simp[go_sem]) hO5 (some ⟨wr.heap.size,0,none⟩) 1 1 (fun _=>.int .i64 (p:Int)) (by simp[go_sem]) (pJ wr (p:Int)) (fun _ _=>rfl) hl5 hsz5 ?_;intro ao' cap' w5 hown hg5)|fail)
      go_roundw
      case rel=>exact⟨p+1,by omega,⟨ao',cap',by rw[hst.out];simp,by rw[hst.out];exact OwI.snoc hown⟩,by go_num,jO hR5 hg5 (fun x e=>(GOwn.at hO5 e).1)⟩
      case measure=>simp[intOf];omega
   obtain rfl:p=P:=by omega
   have hge:¬ ((p:Int)<N.peers):=by have:=hPN.out;omega
   have hvd:(mL N m.frm).votes=(tS p N.votes m.frm):=by have:=hPN.out;simp[mL,this]
   have hbB:=hO.from (Nat.le_trans hbs h1.c.size)
   have hne:=AR (Nat.le_trans hbs h1.c.size) h1.o.x hO;have hne2:=AR (Nat.le_trans hbs h1.c.size) h1.o.m hO;generalize hlE:(tS p N.votes m.frm)=l at hO hLl hvd hbB hne hne2 HA HB ⊢
   have HV:Hid ((⟨N.id,N.peers,N.term,N.vote,N.log,N.role,N.commit,l,N.next,N.mat⟩:Nd)=(mL N m.frm)):=by
    show _ = _
    rw[<-hvd];rfl
   clear hlE hvd;generalize (mL N m.frm)=V at HV HA HB;replace HV:=HV.out;subst HV;have hz7:NdZ (⟨N.id,N.peers,N.term,N.vote,N.log,N.role,N.commit,l,N.next,N.mat⟩:Nd) ⟨lo,lc,ao,cap,no,nc,mo,mc⟩:=⟨hzN.l,by show l.length<=1048576;omega,hzN.x,hzN.m,hzN.lc,GOwn.cap hO,hzN.xc,hzN.mc,hzN.tx⟩
   have hi7:=hBN.out.i;have hc7:=hBN.out.c.1;have ht7:0<N.term:=by have:=hb1.out;omega
   go_wp2_with (first|((with_reducible refine wN 25 (.tmp 137) (.tmp 136) (w.heap.size) 7 (.slice ao l.length cap) ((⟨N.id,N.peers,N.term,N.vote,N.log,N.role,N.commit,l,N.next,N.mat⟩:Nd)) (⟨lo,lc,ao,cap,no,nc,mo,mc⟩) h3.a ?_);intro W5 v5 gA5;have o5:=h3.o.gr gA5 (bA h3.a) (by decide) (by decide);have h5:RS w base qb e0 (⟨N.id,N.peers,N.term,N.vote,N.log,N.role,N.commit,l,N.next,N.mat⟩:Nd) ⟨lo,lc,ao,cap,no,nc,mo,mc⟩ m eo ec (⟨0,N.term,N.id,m.frm,0,0,[],0,false⟩:Ms) W5:=h3.putA v5 ⟨o5.l,hbB.gr gA5 (bA h3.a) (by decide),o5.x,o5.m,fun z e q=>hne z q e,fun z e q=>hne2 z q e,o5.xm⟩ gA5;clear f0 f1 f2 f3 f4 f5 f6 f7 f8 f9 g0 g1 g2 g3 g4 g5 g6 g7 g8 gA5 v5 o5;obtain⟨f0,f1,f2,f3,f4,f5,f6,f7,f8,f9⟩:=cN h5.a;obtain⟨g0,g1,g2,g3,g4,g5,g6,g7,g8⟩:=cM h5.m)|fail)
   clear f0 f1 f2 f3 f4 f5 f6 f7 f8 f9 g0 g1 g2 g3 g4 g5 g6 g7 g8;refine (lI (⟨N.id,N.peers,N.term,N.vote,N.log,N.role,N.commit,l,N.next,N.mat⟩:Nd) ⟨lo,lc,ao,cap,no,nc,mo,mc⟩ (by show l.length<=1048576;omega) _).mono ?_;rintro e w6 ⟨rfl,hb6⟩;have h6:=RS.next h5 hb6;obtain⟨f0,f1,f2,f3,f4,f5,f6,f7,f8,f9⟩:=cN h6.a;obtain⟨g0,g1,g2,g3,g4,g5,g6,g7,g8⟩:=cM h6.m;rcases bq (fM N.peers l.length) with b7|b7
   rotate_left
   ·rw[if_neg (by rw[b7];simp)]at HA HB
    have b7':fM (⟨N.id,N.peers,N.term,N.vote,N.log,N.role,N.commit,l,N.next,N.mat⟩:Nd).peers (⟨N.id,N.peers,N.term,N.vote,N.log,N.role,N.commit,l,N.next,N.mat⟩:Nd).votes.length=false:=b7;rw[b7'];clear b7 b7'
    go_wp2_with (first|((with_reducible refine wB 27 (.tmp 4) (.tmp 308) (w.heap.size+1+1) (aJ ((⟨N.id,N.peers,N.term,N.vote,N.log,N.role,N.commit,l,N.next,N.mat⟩:Nd)) (⟨lo,lc,ao,cap,no,nc,mo,mc⟩)) h6.r ?_);intro W9 hv9 hg9)|fail)
    obtain⟨q0,q1,q2,q3,q4,q5,q6,q7,q8,q9⟩:=cN hv9;exact bodyPost_ret (v:=.tuple #[aX (⟨N.id,N.peers,N.term,N.vote,N.log,N.role,N.commit,l,N.next,N.mat⟩:Nd) ⟨lo,lc,ao,cap,no,nc,mo,mc⟩,.slice (some ⟨e0,0,none⟩) 0 0]) (by simp[results,Tryz.results37,go_sem,q0,q1,q2,q3,q4,q5,q6,q7,q8,q9]) rfl (by rw[HA.out,HB.out];exact⟨⟨lo,lc,ao,cap,no,nc,mo,mc⟩,_,rfl,h6.o.gr hg9 (bA h6.r) (by decide) (by decide),kL (GOwn.gr h6.z hg9 (bA h6.r) (by decide)),h6.c.box hg9 (by omega)⟩)
   rw[if_pos b7]at HA HB;have b7':fM (⟨N.id,N.peers,N.term,N.vote,N.log,N.role,N.commit,l,N.next,N.mat⟩:Nd).peers (⟨N.id,N.peers,N.term,N.vote,N.log,N.role,N.commit,l,N.next,N.mat⟩:Nd).votes.length=true:=b7;rw[b7'];clear b7 b7'
   go_wp2_with fail
   clear f0 f1 f2 f3 f4 f5 f6 f7 f8 f9 g0 g1 g2 g3 g4 g5 g6 g7 g8;refine (pL (⟨N.id,N.peers,N.term,N.vote,N.log,N.role,N.commit,l,N.next,N.mat⟩:Nd) ⟨lo,lc,ao,cap,no,nc,mo,mc⟩ hz7 w.heap.size base hpp hi7 hc7 ht7 _ (Nat.le_trans hbs h6.c.size) h6.a h6.o).mono ?_;rintro e w7 ⟨v,s7,rfl,vB,o7,nv,g7⟩
   have h7c:Ch base w w7:=h6.c.g2 g7 nl (fun k e=>by
    have e':dI lo=some k:=e;have hx:=GOwn.at h6.o.l (x:=k) (by rw[bK];exact e')
    exact⟨hx.1,GOwn.typed h6.o.l (x:=k) (by rw[bK];exact e')⟩)
   have vR7:NdB w7 (w.heap.size+1+1) aU aP:=VHas.g2 h6.r g7 (by omega) (fun q=>by
    have e':dI lo=some (w.heap.size+1+1):=q
    exact jK h6.r.typed (GOwn.typed h6.o.l (x:=w.heap.size+1+1) (by rw[bK];exact e')) (by decide) rfl)
   have nv7:=NetV.from nv h6.c.size
   clear g7 nv h6 h5 h3 h1 hz7 hO hbB hne hne2;obtain⟨lo7,lc7,vo7,vc7,no7,nc7,mo7,mc7⟩:=s7;generalize eJ (⟨N.id,N.peers,N.term,N.vote,N.log,N.role,N.commit,l,N.next,N.mat⟩:Nd)=M at vB o7 HA;obtain⟨f0,f1,f2,f3,f4,f5,f6,f7,f8,f9⟩:=cN vB
   go_wp2_with (first|((with_reducible refine wB 27 (.tmp 4) (.tmp 141) (w.heap.size+1+1) (aJ (M) (⟨lo7,lc7,vo7,vc7,no7,nc7,mo7,mc7⟩)) vR7 ?_);intro W9 hv9 hg9)|fail)
   obtain⟨q0,q1,q2,q3,q4,q5,q6,q7,q8,q9⟩:=cN hv9;exact bodyPost_ret (v:=.tuple #[aX M ⟨lo7,lc7,vo7,vc7,no7,nc7,mo7,mc7⟩,v]) (by simp[results,Tryz.results37,go_sem,q0,q1,q2,q3,q4,q5,q6,q7,q8,q9]) rfl (by rw[HA.out,HB.out];exact⟨_,_,rfl,o7.gr hg9 (bA vR7) (by decide) (by decide),NetV.gr nv7 hg9 vR7.typed,h7c.box hg9 (by omega)⟩)
theorem B3(N:Nd)(lo:Option Addr)(lc:Nat)(m:Ms)(eo:Option Addr)(ec:Nat)(hl:N.log.length<=1048576)(hc:N.log.length<=lc)(hX:∀ k,k<N.log.length->(cS N.log k).size<=1048576)(hmz:MsZ m)(hec:m.ents.length<=ec)(w:World)(hr:LRow w 47 lo (dZ N.log))(hs:LRow w 47 eo (dZ m.ents)):
  Calls Tryz.prog 82 #[.slice lo N.log.length lc,.int .i64 m.index,.slice eo m.ents.length ec] w fun e w'=>∃ ao cap,e=.returned (.tuple #[.slice ao (kU (bV N) m).length cap,.bool (BE (bV N) m)])/\(kU (bV N) m).length<=cap/\(BE (bV N) m=true->OwE w' w.heap.size ao cap (kU (bV N) m))/\RB w w':=by
 refine (uQ lo N.log.length lc (cL N.log) (cS N.log) m.index eo m.ents.length ec (cL m.ents) (cS m.ents) hl hc hmz.l hec hX hmz.x w hr.n hs.n).mono ?_;rintro e w' ⟨ao,cap,rfl,h1,h2,h3⟩;have hlen:(kU (bV N) m).length=lB N.log.length (cL N.log) (cS N.log) m.index m.ents.length (cL m.ents) (cS m.ents):=dO _ _ _;refine⟨ao,cap,by rw[hlen];rfl,by rw[hlen];exact h1,fun q=>?_,h3⟩;have:=h2 q
 show GOwn w' w.heap.size 47 2 ao (kU (bV N) m).length cap (lf (dZ (kU (bV N) m)))
 rw[hlen];exact GOwn.congr this (fun j hj=>(rF _ _ _ j hj).symm)
def S1(a b:List En)(k:Nat):Bool:=decide (k<=a.length)&&H7 (a.take k) (b.take k)
theorem BA(a b:List En):S1 a b 0=true:=by simp[S1,H7]
theorem CH{a:List En}{k:Nat}(h:k<a.length):a[k]=⟨cL a k,cS a k⟩:=by simp[cL,cS,h]
theorem B4{a b:List En}{k:Nat}(h:k<b.length):S1 a b (k+1)=(S1 a b k&&(decide (k<a.length)&&decide (cL a k=cL b k/\cS a k=cS b k))):=by
 rw[Bool.eq_iff_iff];simp only[S1,Bool.and_eq_true,decide_eq_true_eq,yD];constructor
 ·rintro⟨h1,h2⟩
  rw[List.take_succ_eq_append_getElem (by omega),List.take_succ_eq_append_getElem h]at h2;have h3:=List.append_inj h2 (by simp;omega);have h4:a[k]=b[k]:=by simpa using h3.2
  rw[CH (by omega),CH h]at h4;have h5:=En.mk.inj h4;exact⟨⟨by omega,h3.1⟩,by omega,h5.1,h5.2⟩
 ·rintro⟨⟨h1,h2⟩,h3,h4,h5⟩
  refine⟨by omega,?_⟩;rw[List.take_succ_eq_append_getElem h3,List.take_succ_eq_append_getElem h,h2,CH h3,CH h,h4,h5]
theorem B5{a b:List En}:∀ {j k:Nat},k<=j->j<=b.length->S1 a b k=false->S1 a b j=false
 | 0,k,h,_,h2=>by
  have:k=0:=by omega
  subst this;exact h2
 | j+1,k,h,hj,h2=>by
  by_cases q:k=j+1
  ·subst q;exact h2
  ·rw[B4 (by omega),B5 (by omega) (by omega) h2]
   rfl
theorem DX{N:Nd}{m:Ms}(hl:fJ N.log=true)(hc:0<=N.commit/\N.commit<=N.log.length)(b4:jQ N.log.length (cL N.log) m.index m.lterm=true):qX (bV N) m=(BE (bV N) m&&S1 (kU (bV N) m) N.log N.commit.toNat):=by
 have e1:qX (bV N) m=((fJ N.log&&jQ N.log.length (cL N.log) m.index m.lterm)&&(BE (bV N) m&&(decide (N.commit<=(kU (bV N) m).length)&&H7 ((kU (bV N) m).take N.commit.toNat) (N.log.take N.commit.toNat)))):=rfl
 have e2:decide (N.commit<=((kU (bV N) m).length:Int))=decide (N.commit.toNat<=(kU (bV N) m).length):=by
  congr 1
  apply propext;omega
 rw[e1,hl,b4,e2];rfl
theorem FB{x y:ByteArray}(h:¬ x=y):(x.toList==y.toList)=false:=by
 rw[ByteArray.toList_eq,ByteArray.toList_eq]
 have:¬ x.data.toList=y.data.toList:=fun q=>h (by
  have:=Array.ext' q;rcases x with ⟨d⟩
  rcases y with ⟨d'⟩
  simp at this
  rw[this])
 simpa using this
theorem BB{o:Oper}{ev:Operand->Value}{x y:Operand}{t1 t2:Int}{x1 x2:ByteArray}{W:World}(ho:o.op=.binOp .eql 47 x y 47)(hx:ev x=.agg #[.int .i64 t1,.string x1])(hy:ev y=.agg #[.int .i64 t2,.string x2]):
  (execOp ev o).run Tryz.prog W=.ok (.value (.bool (decide (t1=t2/\x1=x2)))) W:=by
 unfold execOp
 by_cases h1:t1=t2
 ·subst h1
  by_cases h2:x1=x2
  ·subst h2
   simp[ho,hx,hy,go_sem]
  ·have:=FB h2
   simp[ho,hx,hy,go_sem,this,h2]
 ·simp[ho,hx,hy,go_sem,h1]
theorem uG(n:Nd)(s:NdS)(hz:NdZ n s)(m:Ms)(eo:Option Addr)(ec:Nat)(hmz:MsZ m)(hB:bY n=true)(hix:-9223372036854775808<=m.index/\m.index<=9223372036854775807)(base:Nat)(w:World)(hbs:base<=w.heap.size)(hO:NdO w base n s)(hE:MsM w m eo ec)(hk:m.kind=3)(hF:gV n m=true):Calls Tryz.prog 37 #[aX n s,eS m eo ec] w fun e w'=>ED base (gE (rc1 n m) m) (iQ (rc1 n m) m) w w' e:=by
 have hpe:=dW hB;replace hk:Hid (m.kind=3):=hk;have hb:=rt _ _ _ (rt _ _ _ (ra w (.cells (aJ n s).toArray 27)) (ra _ (.cells (bZ m eo ec).toArray 29))) (ra _ (.cells (aJ aU aP).toArray 27));have vA:NdB _ w.heap.size n s:=((aH w n s).next (ra _ (.cells (bZ m eo ec).toArray 29))).next (ra _ (.cells (aJ aU aP).toArray 27));have vM:MsB _ (w.alloc (.cells (aJ n s).toArray 27)).heap.size m eo ec:=(bJ (w.alloc (.cells (aJ n s).toArray 27)) m eo ec).next (ra _ (.cells (aJ aU aP).toArray 27));have vR:=aH ((w.alloc (.cells (aJ n s).toArray 27)).alloc (.cells (bZ m eo ec).toArray 29)) aU aP;rw[World.size_alloc]at vM;rw[World.size_alloc,World.size_alloc]at vR;have HE:Hid (∀ W,Ch base w W->LRow w 47 eo (dZ m.ents)->True):=fun _ _ _=>trivial
 replace hO:=hO.next hb;have hEn:=hE.e.next hb;have hEc:=hE.c;clear HE hE;go_enter Tryz.func37,Tryz.ntmps37;refine aW fun K0 hK0=>?_
 go_wp2;refine hK0.out _ _ ?_;clear hK0;generalize (((w.alloc _).alloc _).alloc _)=W at hb vA vM vR hO hEn ⊢;have hal:=ra W (.cells #[] 29);have hN0:GOwn (W.alloc (.cells #[] 29)) w.heap.size 29 9 (some ⟨W.heap.size,0,none⟩) 0 0 (lf (jV [])):=GOwn.from (GOwn.empty W 29 9 _) hb.size
 replace hb:=rt _ _ _ hb hal;replace vA:=vn vA hal;replace vM:=vn vM hal;replace vR:=vn vR hal;replace hO:=hO.next hal;replace hEn:=hEn.next hal;clear hal;obtain⟨f0,f1,f2,f3,f4,f5,f6,f7,f8,f9⟩:=cN vA;obtain⟨g0,g1,g2,g3,g4,g5,g6,g7,g8⟩:=cM vM
 go_wp2_with fail
 generalize W.heap.size=e0 at hN0 ⊢;generalize (W.alloc _)=W1 at hN0 hb vA vM vR hO hEn f0 f1 f2 f3 f4 f5 f6 f7 f8 f9 g0 g1 g2 g3 g4 g5 g6 g7 g8 ⊢;refine (gO n s m eo ec ⟨hpe.1,hpe.2.1⟩ hmz.l hmz.x _ hEn).mono ?_;rintro e w1 ⟨rfl,hb1⟩;replace hb:=rt _ _ _ hb hb1;replace vA:NdB w1 w.heap.size n s:=vn vA hb1;replace vM:MsB w1 (w.heap.size+1) m eo ec:=vn vM hb1;replace vR:NdB w1 (w.heap.size+1+1) aU aP:=vn vR hb1;replace hN0:=GOwn.next hN0 hb1;replace hO:=hO.next hb1;replace hEn:=hEn.next hb1;clear hb1 f0 f1 f2 f3 f4 f5 f6 f7 f8 f9 g0 g1 g2 g3 g4 g5 g6 g7 g8;have hC:Ch base w w1:=Ch.of_rb hb;have hwsz:w.heap.size+1+1<w1.heap.size:=vR.lt;clear hb;rw[hF];have hff:=hF;simp only[gV,Bool.and_eq_true]at hff
 have hfr:0<=m.frm/\m.frm<n.peers:=by
  have:=hff.2.2.1;simpa[dS] using this
 have hmt:1<=m.term/\m.term<=100000:=⟨of_decide_eq_true hff.2.2.2.2.2.1,of_decide_eq_true hff.2.2.2.2.2.2.1⟩
 clear hff hF;obtain⟨f0,f1,f2,f3,f4,f5,f6,f7,f8,f9⟩:=cN vA;obtain⟨g0,g1,g2,g3,g4,g5,g6,g7,g8⟩:=cM vM
 go_upto_if 30 with fail
 go_cut [] from 19 to 32 (fun wc=>∃ N s2,NdB wc w.heap.size N s2/\MsB wc (w.heap.size+1) m eo ec/\NdB wc (w.heap.size+1+1) aU aP/\NdO wc base N s2/\GOwn wc w.heap.size 29 9 (some ⟨e0,0,none⟩) 0 0 (lf (jV []))/\Ch base w wc/\LRow wc 47 eo (dZ m.ents)/\rc1 n m=N/\NkR N/\NdZ N s2/\N.peers=n.peers)
 case first=>
  by_cases hup:n.term<m.term
  ·have hrc:rc1 n m=(lJ n m.term):=if_pos hup
   go_wp2_with (first|((with_reducible refine wN 2 (.tmp 33) (.tmp 32) (w.heap.size) 2 (.int .i64 m.term) ((⟨n.id,n.peers,m.term,n.vote,n.log,n.role,n.commit,n.votes,n.next,n.mat⟩:Nd)) (s) vA ?_);intro Wa va ga)|((with_reducible refine cG rfl 2 (.tmp 34) (.const (.int .i64 (-1))) rfl rfl (w.heap.size) 3 (.int .i64 (-1)) (by simp[go_sem]) (by simp[go_sem]) ((⟨n.id,n.peers,m.term,-1,n.log,n.role,n.commit,n.votes,n.next,n.mat⟩:Nd)) (s) va (by omega) (by kernel_rfl) (by kernel_rfl) (dT (by kernel_rfl)) (by kernel_rfl) ?_);intro Wb vb gb)|fail)
   clear f0 f1 f2 f3 f4 f5 f6 f7 f8 f9 g0 g1 g2 g3 g4 g5 g6 g7 g8;have hOb:=(hO.gr ga (bA vA) (by decide) (by decide)).gr gb (bA va) (by decide) (by decide);have vMb:MsB Wb (w.heap.size+1) m eo ec:=VHas.grown (VHas.grown vM ga (fun e=>by have:=oI e;omega)) gb (fun e=>by have:=oI e;omega);have vRb:NdB Wb (w.heap.size+1+1) aU aP:=VHas.grown (VHas.grown vR ga (fun e=>by have:=oI e;omega)) gb (fun e=>by have:=oI e;omega);have hNb:=GOwn.gr (GOwn.gr hN0 ga (bA vA) (by decide)) gb (bA va) (by decide);have hEb:=(hEn.gr ga (bA vA) (by decide)).gr gb (bA va) (by decide);have hCb:=(hC.box ga nl).box gb nl;have hO2:NdO Wb base (⟨n.id,n.peers,m.term,-1,n.log,n.role,n.commit,n.votes,n.next,n.mat⟩:Nd) s:=⟨hOb.l,hOb.v,hOb.x,hOb.m,hOb.vx,hOb.vm,hOb.xm⟩
   clear hO vM vR hN0 hEn hC ga vA va hOb;refine (fB (⟨n.id,n.peers,m.term,-1,n.log,n.role,n.commit,n.votes,n.next,n.mat⟩:Nd) s w.heap.size base _ (Nat.le_trans hbs hCb.size) vb hO2).mono ?_;rintro e w2 ⟨rfl,s2,vA,hO,gA⟩;have eU:bV (⟨n.id,n.peers,m.term,-1,n.log,n.role,n.commit,n.votes,n.next,n.mat⟩:Nd)=(lJ n m.term):=rfl;rw[eU]at vA hO;have vM:MsB w2 (w.heap.size+1) m eo ec:=VHas.grown vMb gA (fun e=>by have:=oI e;omega);have vR:NdB w2 (w.heap.size+1+1) aU aP:=VHas.grown vRb gA (fun e=>by have:=oI e;omega);have hN0:=GOwn.gr hNb gA (bA vb) (by decide);have hEn:=hEb.gr gA (bA vb) (by decide);have hC:=hCb.box gA nl;have hzU:=sF (kK hB hmt) hO hz.l hz.tx (by simp[lJ]) (by simp[lJ]) (by simp[lJ]);clear vMb vRb hNb hEb hCb hO2 vb gb gA hup eU;go_wp2
   go_meet
   case rel=>exact⟨(lJ n m.term),s2,vA,vM,vR,hO,hN0,hC,hEn,hrc,kK hB hmt,hzU,rfl⟩
  ·go_wp2
   go_meet
   case rel=>exact⟨n,s,vA,vM,vR,hO,hN0,hC,hEn,if_neg (by omega),pZ hB,hz,rfl⟩
 case rest=>
  clear vA vM vR hO hN0 hC hEn hwsz f0 f1 f2 f3 f4 f5 f6 f7 f8 f9 g0 g1 g2 g3 g4 g5 g6 g7 g8;obtain⟨N,s2,vA,vM,vR,hO,hN0,hC,hEn,hrc,hBN,hzN,hNp⟩:=hcut;have hwsz:w.heap.size+1+1<wc.heap.size:=vR.lt;replace hrc:Hid (rc1 n m=N):=hrc;replace hBN:Hid (NkR N):=hBN;replace hNp:Hid (N.peers=n.peers):=hNp;obtain⟨lo,lc,vo,vc,no,nc,mo,mc⟩:=s2;obtain⟨f0,f1,f2,f3,f4,f5,f6,f7,f8,f9⟩:=cN vA;obtain⟨g0,g1,g2,g3,g4,g5,g6,g7,g8⟩:=cM vM;have hal:=ra wc (.cells (bZ gW none 0).toArray 29);have h0:RS w base wc.heap.size e0 N ⟨lo,lc,vo,vc,no,nc,mo,mc⟩ m eo ec gW (wc.alloc (.cells (bZ gW none 0).toArray 29)):=⟨vn vA hal,vn vM hal,vn vR hal,bJ wc gW none 0,hO.next hal,GOwn.next hN0 hal,hC.trans (Ch.of_rb hal),vR.lt,(GOwn.at hN0 rfl).2⟩
  replace hEn:=hEn.next hal;clear hal vA vM vR hN0 hC hO
  go_upto_if 48 with (first|((with_reducible refine wB 29 (.tmp 8) (.tmp 45) wc.heap.size (bZ (⟨0,N.term,N.id,m.frm,0,0,[],0,false⟩:Ms) none 0) h0.q ?_);intro W2 vQ2 gQ;have h1:RS w base wc.heap.size e0 N ⟨lo,lc,vo,vc,no,nc,mo,mc⟩ m eo ec (⟨0,N.term,N.id,m.frm,0,0,[],0,false⟩:Ms) W2:=h0.putQ vQ2 gQ;have hEn1:=hEn.gr gQ (fun x e=>by cases e;exact h0.q.typed) (by decide);clear f0 f1 f2 f3 f4 f5 f6 f7 f8 f9 g0 g1 g2 g3 g4 g5 g6 g7 g8 gQ vQ2;obtain⟨f0,f1,f2,f3,f4,f5,f6,f7,f8,f9⟩:=cN h1.a;obtain⟨g0,g1,g2,g3,g4,g5,g6,g7,g8⟩:=cM h1.m)|fail)
  generalize wc.heap.size=qb at h1 hwsz ⊢;clear h0 hEn
  have k1:(m.kind==1)=false:=by rw[hk.out];rfl
  have k2:(m.kind==2)=false:=by rw[hk.out];rfl
  have k3:(m.kind==3)=true:=by rw[hk.out];rfl
  go_upto_region 37 with (first|((with_reducible refine wM 2 (.tmp 145) (.const (.int .i64 4)) (qb) 0 (.int .i64 4) ((⟨4,N.term,N.id,m.frm,0,0,[],0,false⟩:Ms)) h1.q ?_);intro W3 vQ3 gQ;have h2:=h1.putQ vQ3 gQ;have hEn2:=hEn1.gr gQ (fun x e=>by cases e;exact h1.q.typed) (by decide);clear f0 f1 f2 f3 f4 f5 f6 f7 f8 f9 g0 g1 g2 g3 g4 g5 g6 g7 g8 gQ vQ3;obtain⟨f0,f1,f2,f3,f4,f5,f6,f7,f8,f9⟩:=cN h2.a;obtain⟨g0,g1,g2,g3,g4,g5,g6,g7,g8⟩:=cM h2.m)|fail)
  clear h1 hEn1 k1 k2 k3
  by_cases b1:m.term<N.term
  ·have HN:Hid (gE (rc1 n m) m=N):=by show _ = _;rw[hrc.out];simp[gE,hk.out,jY,b1]
   have HL:Hid (iQ (rc1 n m) m=[(⟨4,N.term,N.id,m.frm,0,0,[],0,false⟩:Ms)]):=by show _ = _;rw[hrc.out];simp[iQ,hk.out,mB,fI,b1]
   go_wp2_with fail
   clear f0 f1 f2 f3 f4 f5 f6 f7 f8 f9 g0 g1 g2 g3 g4 g5 g6 g7 g8;have hd:RB W3 W3.drew:=(Below.refl _ _).drew;have hD:=RS.next h2 hd;clear hd
   refine cY (by kernel_rfl) (by kernel_rfl) 3 [0] [1,2,4] (by kernel_rfl) (by kernel_rfl)
    (fun u v=>u.grownBy v (some (w.heap.size+1+1))/\aG u (w.heap.size+1+1) 27)
    (fun W5=>NdB W5 (w.heap.size+1+1) N ⟨lo,lc,vo,vc,no,nc,mo,mc⟩/\NdO W5 base N ⟨lo,lc,vo,vc,no,nc,mo,mc⟩/\Ch base w W5/\MsB W5 qb (⟨4,N.term,N.id,m.frm,0,0,[],0,false⟩:Ms) none 0)
    (fun a b h hR=>⟨vn h.1 hR,h.2.1.next hR,h.2.2.1.trans (Ch.of_rb hR),vn h.2.2.2 hR⟩)
    [isV (aX N ⟨lo,lc,vo,vc,no,nc,mo,mc⟩),isV (eS (⟨4,N.term,N.id,m.frm,0,0,[],0,false⟩:Ms) none 0),NetV w.heap.size [(⟨4,N.term,N.id,m.frm,0,0,[],0,false⟩:Ms)],fun _ _=>True,NetV w.heap.size [(⟨4,N.term,N.id,m.frm,0,0,[],0,false⟩:Ms)]]
    ⟨iR,iR,NetV.rb,fun _ _ _ h _=>h,NetV.rb,trivial⟩ ?_ ?_ (kR ?_) _ rfl rfl ?_ ?_
   ·intro i hi v a b h hx
    simp only[List.mem_cons,List.not_mem_nil,or_false]at hi;rcases hi with rfl|rfl|rfl
    ·exact h
    ·exact NetV.gr h hx.1 hx.2
    ·exact NetV.gr h hx.1 hx.2
   ·intro i hi o ho
    simp only[List.mem_cons,List.not_mem_nil,or_false]at hi;subst hi;obtain rfl:=oI ho
    exact oq rfl fun ev w9 v hR E pr=>by
     have e1:=E.was 2 _;exact bD rfl e1 (vn hD.a hR)
   ·refine aD rfl (aM ?_ (aM ?_ (aD rfl (aM ?_ trivial))))
    ·exact LateOk.get _ (fun _=>rfl) fun ev w9 v hR E pr=>by
      have e1:=E.was 8 _
      have vv:MsB w9 qb (⟨4,N.term,N.id,m.frm,0,0,[],0,false⟩:Ms) none 0:=by
       rcases hR with hR|hR
       ·exact vn hD.q hR
       ·exact hR.2.2.2
      exact gJ rfl e1 vv
    ·intro ev w9 v hR E pr
     have e1:ev (.tmp 153)=eS (⟨4,N.term,N.id,m.frm,0,0,[],0,false⟩:Ms) none 0:=E.kept pr 1 153
     have hs9:w.heap.size<=w9.heap.size:=by
      rcases hR with hR|hR
      ·exact Nat.le_trans hD.c.size hR.size
      ·exact hR.2.2.1.size
     exact⟨.slice (some ⟨w9.heap.size,0,none⟩) 1 1,w9.alloc (.cells (bZ (⟨4,N.term,N.id,m.frm,0,0,[],0,false⟩:Ms) none 0).toArray 29),(by (simp[go_sem,e1])<;>rfl),ra _ _,NetV.from (jM w9 (⟨4,N.term,N.id,m.frm,0,0,[],0,false⟩:Ms) rfl) hs9⟩
    ·intro ev w9 v hR E pr
     exact⟨ev (.tmp 154),w9,by simp[go_sem],rr _,E.kept pr 2 154⟩
   ·intro ev w5 v hR E hp
    have E1:ev (.tmp 152)=aX N ⟨lo,lc,vo,vc,no,nc,mo,mc⟩:=E.get hp 0 152;have E2:ev (.tmp 4)=.pointer (some ⟨w.heap.size+1+1,0,none⟩):=E.was 4 _;have hD5:=RS.next hD hR;have hg:w5.grownBy (setL w5 (w.heap.size+1+1) 0 (aJ N ⟨lo,lc,vo,vc,no,nc,mo,mc⟩)) (some (w.heap.size+1+1)):=bP _ _ 0 _;exact⟨_,bU (aJ N ⟨lo,lc,vo,vc,no,nc,mo,mc⟩) rfl E2 E1 hD5.r (by kernel_rfl) (cD (by kernel_rfl)),⟨hg,hD5.r.typed⟩,bE _ hD5.r,hD5.o.gr hg (bA hD5.r) (by decide) (by decide),hD5.c.box hg (by omega),VHas.gr hD5.q hg (bA hD5.r) (by decide)⟩
   ·intro v8 w8 hP8 hk8
    have k8:NetV w.heap.size [(⟨4,N.term,N.id,m.frm,0,0,[],0,false⟩:Ms)] (v8 4) w8:=hk8 4 (by decide) (nb (by kernel_rfl)) (by decide);simp only[bF,Nat.zero_add,Nat.reduceAdd,Act.put,sY,sZ,ss];obtain⟨hv9,hO9,hC9,_⟩:=hP8;obtain⟨q0,q1,q2,q3,q4,q5,q6,q7,q8,q9⟩:=cN hv9;go_wp2;exact bodyPost_ret (v:=.tuple #[aX N ⟨lo,lc,vo,vc,no,nc,mo,mc⟩,v8 4]) (by simp[results,Tryz.results37,go_sem,q0,q1,q2,q3,q4,q5,q6,q7,q8,q9]) rfl (by rw[HN.out,HL.out];exact⟨⟨lo,lc,vo,vc,no,nc,mo,mc⟩,v8 4,rfl,hO9,k8,hC9⟩)
  by_cases r3:N.role=3
  ·have HN:Hid (gE (rc1 n m) m=N):=by show _ = _;rw[hrc.out];simp[gE,hk.out,jY,r3]
   have HL:Hid (iQ (rc1 n m) m=[]):=by show _ = _;rw[hrc.out];simp[iQ,hk.out,mB,b1,r3]
   have r3':(N.role==3)=true:=by simp[r3]
   clear r3
   go_wp2_with (first|((with_reducible refine wB 27 (.tmp 4) (.tmp 159) (w.heap.size+1+1) (aJ (N) (⟨lo,lc,vo,vc,no,nc,mo,mc⟩)) h2.r ?_);intro W9 hv9 hg9)|fail)
   obtain⟨q0,q1,q2,q3,q4,q5,q6,q7,q8,q9⟩:=cN hv9;exact bodyPost_ret (v:=.tuple #[aX N ⟨lo,lc,vo,vc,no,nc,mo,mc⟩,.slice (some ⟨e0,0,none⟩) 0 0]) (by simp[results,Tryz.results37,go_sem,q0,q1,q2,q3,q4,q5,q6,q7,q8,q9]) rfl (by rw[HN.out,HL.out];exact⟨⟨lo,lc,vo,vc,no,nc,mo,mc⟩,_,rfl,h2.o.gr hg9 (bA h2.r) (by decide) (by decide),kL (GOwn.gr h2.z hg9 (bA h2.r) (by decide)),h2.c.box hg9 (by omega)⟩)
  have HA:Hid (gE (rc1 n m) m=if qX (bV N) m=true then Q8 N m else bV N):=by show _ = _;rw[hrc.out];simp[gE,hk.out,jY,b1,r3]
  have HB:Hid (iQ (rc1 n m) m=if qX (bV N) m=true then [fI N m (qF m) true] else [fI N m (min (N.log.length:Int) (max m.index 1-1)) false]):=by show _ = _;rw[hrc.out];simp[iQ,hk.out,mB,b1,r3]
  go_wp2_with fail
  clear f0 f1 f2 f3 f4 f5 f6 f7 f8 f9 g0 g1 g2 g3 g4 g5 g6 g7 g8;refine (fB N ⟨lo,lc,vo,vc,no,nc,mo,mc⟩ w.heap.size base _ (Nat.le_trans hbs h2.c.size) h2.a h2.o).mono ?_;rintro e w4 ⟨rfl,s4,v4,o4,g4⟩;have hEn4:=hEn2.gr g4 (bA h2.a) (by decide);have h4:=h2.putA v4 o4 g4;obtain⟨lo4,lc4,vo4,vc4,no4,nc4,mo4,mc4⟩:=s4;clear v4 o4 g4 b1 r3;obtain⟨f0,f1,f2,f3,f4,f5,f6,f7,f8,f9⟩:=cN h4.a;obtain⟨g0,g1,g2,g3,g4,g5,g6,g7,g8⟩:=cM h4.m
  go_wp2_with fail
  refine (zJ lo4 N.log.length lc4 (cL N.log) (cS N.log) m.index m.lterm (by have:=hzN.l;omega) _ h4.o.M.l.n).mono ?_;rintro e w5 ⟨rfl,hw5⟩;replace hw5:=hw5.symm;subst hw5
  go_upto_if 168 with fail
  go_cut [48,49,84,85,143,144] from 145 to 169 (fun _ _ _ _ _ _ wz=>RS w base qb e0 (bV N) ⟨lo4,lc4,vo4,vc4,no4,nc4,mo4,mc4⟩ m eo ec (⟨4,N.term,N.id,m.frm,0,0,[],0,false⟩:Ms) wz/\qX (bV N) m=false)
  case rest=>
   clear h2 hEn2 hEn4 f0 f1 f2 f3 f4 f5 f6 f7 f8 f9 g0 g1 g2 g3 g4 g5 g6 g7 g8 h4;obtain⟨h4,hF4⟩:=hcut;obtain⟨f0,f1,f2,f3,f4,f5,f6,f7,f8,f9⟩:=cN h4.a;obtain⟨g0,g1,g2,g3,g4,g5,g6,g7,g8⟩:=cM h4.m
   go_wp2_with fail
   clear f0 f1 f2 f3 f4 f5 f6 f7 f8 f9 g0 g1 g2 g3 g4 g5 g6 g7 g8;have HN:Hid (gE (rc1 n m) m=(bV N)):=by show _ = _;rw[HA.out,hF4];rfl
   have HL:Hid (iQ (rc1 n m) m=[(⟨4,N.term,N.id,m.frm,max 0 (min (N.log.length:Int) (max 0 m.index-1)),0,[],0,false⟩:Ms)]):=by
    show _ = _
    rw[HB.out,hF4];have e:min (N.log.length:Int) (max m.index 1-1)=max 0 (min (N.log.length:Int) (max 0 m.index-1)):=by omega
    rw[<-e];rfl
   clear HA HB hF4;have hw231:IntKind.i64.wrap (max 0 m.index-1)=max 0 m.index-1:=wi
   refine (jH 0 m.index _).mono ?_;rintro e w6 ⟨rfl,hb6⟩;have h6:=RS.next h4 hb6
   go_wp2_with fail
   refine (kW (N.log.length:Int) (max 0 m.index-1) _).mono ?_;rintro e w7 ⟨rfl,hb7⟩;have h7:=RS.next h6 hb7
   go_wp2_with fail
   refine (jH 0 (min (N.log.length:Int) (max 0 m.index-1)) _).mono ?_;rintro e w8 ⟨rfl,hb8⟩;have h8:=RS.next h7 hb8;clear hb8 hb7 hb6 h7 h6
   go_wp2_with (first|((with_reducible refine wM 2 (.tmp 234) (.tmp 233) (qb) 4 (.int .i64 (max 0 (min (N.log.length:Int) (max 0 m.index-1)))) ((⟨4,N.term,N.id,m.frm,max 0 (min (N.log.length:Int) (max 0 m.index-1)),0,[],0,false⟩:Ms)) h8.q ?_);intro W9 vQ9 gQ;have h9:=h8.putQ vQ9 gQ;clear gQ vQ9)|fail)
   generalize hRE:(⟨4,N.term,N.id,m.frm,max 0 (min (N.log.length:Int) (max 0 m.index-1)),0,[],0,false⟩:Ms)=RE at h9 HL;have HZ:Hid (RE.ents=[]):=by show _ = _;rw[<-hRE]
   clear hRE;generalize (bV N)=M at h9 HN;have hd:RB W9 W9.drew:=(Below.refl _ _).drew;have hD:=RS.next h9 hd;clear hd
   refine cY (by kernel_rfl) (by kernel_rfl) 3 [0] [1,2,4] (by kernel_rfl) (by kernel_rfl)
    (fun u v=>u.grownBy v (some (w.heap.size+1+1))/\aG u (w.heap.size+1+1) 27)
    (fun W5=>NdB W5 (w.heap.size+1+1) M ⟨lo4,lc4,vo4,vc4,no4,nc4,mo4,mc4⟩/\NdO W5 base M ⟨lo4,lc4,vo4,vc4,no4,nc4,mo4,mc4⟩/\Ch base w W5/\MsB W5 qb RE none 0)
    (fun a b h hR=>⟨vn h.1 hR,h.2.1.next hR,h.2.2.1.trans (Ch.of_rb hR),vn h.2.2.2 hR⟩)
    [isV (aX M ⟨lo4,lc4,vo4,vc4,no4,nc4,mo4,mc4⟩),isV (eS RE none 0),NetV w.heap.size [RE],fun _ _=>True,NetV w.heap.size [RE]]
    ⟨iR,iR,NetV.rb,fun _ _ _ h _=>h,NetV.rb,trivial⟩ ?_ ?_ (kR ?_) _ rfl rfl ?_ ?_
   ·intro i hi v a b h hx
    simp only[List.mem_cons,List.not_mem_nil,or_false]at hi;rcases hi with rfl|rfl|rfl
    ·exact h
    ·exact NetV.gr h hx.1 hx.2
    ·exact NetV.gr h hx.1 hx.2
   ·intro i hi o ho
    simp only[List.mem_cons,List.not_mem_nil,or_false]at hi;subst hi;obtain rfl:=oI ho
    exact oq rfl fun ev w9 v hR E pr=>by
     have e1:=E.was 2 _;exact bD rfl e1 (vn hD.a hR)
   ·refine aD rfl (aM ?_ (aM ?_ (aD rfl (aM ?_ trivial))))
    ·exact LateOk.get _ (fun _=>rfl) fun ev w9 v hR E pr=>by
      have e1:=E.was 8 _
      have vv:MsB w9 qb RE none 0:=by
       rcases hR with hR|hR
       ·exact vn hD.q hR
       ·exact hR.2.2.2
      exact gJ rfl e1 vv
    ·intro ev w9 v hR E pr
     have e1:ev (.tmp 236)=eS RE none 0:=E.kept pr 1 236
     have hs9:w.heap.size<=w9.heap.size:=by
      rcases hR with hR|hR
      ·exact Nat.le_trans hD.c.size hR.size
      ·exact hR.2.2.1.size
     exact⟨.slice (some ⟨w9.heap.size,0,none⟩) 1 1,w9.alloc (.cells (bZ RE none 0).toArray 29),(by (simp[go_sem,e1])<;>rfl),ra _ _,NetV.from (jM w9 RE HZ.out) hs9⟩
    ·intro ev w9 v hR E pr
     exact⟨ev (.tmp 237),w9,by simp[go_sem],rr _,E.kept pr 2 237⟩
   ·intro ev w5 v hR E hp
    have E1:ev (.tmp 235)=aX M ⟨lo4,lc4,vo4,vc4,no4,nc4,mo4,mc4⟩:=E.get hp 0 235;have E2:ev (.tmp 4)=.pointer (some ⟨w.heap.size+1+1,0,none⟩):=E.was 4 _;have hD5:=RS.next hD hR;have hg:w5.grownBy (setL w5 (w.heap.size+1+1) 0 (aJ M ⟨lo4,lc4,vo4,vc4,no4,nc4,mo4,mc4⟩)) (some (w.heap.size+1+1)):=bP _ _ 0 _;exact⟨_,bU (aJ M ⟨lo4,lc4,vo4,vc4,no4,nc4,mo4,mc4⟩) rfl E2 E1 hD5.r (by kernel_rfl) (cD (by kernel_rfl)),⟨hg,hD5.r.typed⟩,bE _ hD5.r,hD5.o.gr hg (bA hD5.r) (by decide) (by decide),hD5.c.box hg (by omega),VHas.gr hD5.q hg (bA hD5.r) (by decide)⟩
   ·intro v8 w8 hP8 hk8
    have k8:NetV w.heap.size [RE] (v8 4) w8:=hk8 4 (by decide) (nb (by kernel_rfl)) (by decide);simp only[bF,Nat.zero_add,Nat.reduceAdd,Act.put,sY,sZ,ss];obtain⟨hv9,hO9,hC9,_⟩:=hP8;obtain⟨q0,q1,q2,q3,q4,q5,q6,q7,q8,q9⟩:=cN hv9;go_wp2;exact bodyPost_ret (v:=.tuple #[aX M ⟨lo4,lc4,vo4,vc4,no4,nc4,mo4,mc4⟩,v8 4]) (by simp[results,Tryz.results37,go_sem,q0,q1,q2,q3,q4,q5,q6,q7,q8,q9]) rfl (by rw[HN.out,HL.out];exact⟨⟨lo4,lc4,vo4,vc4,no4,nc4,mo4,mc4⟩,v8 4,rfl,hO9,k8,hC9⟩)
  case first=>
   rcases bq (jQ N.log.length (cL N.log) m.index m.lterm) with b4|b4
   rotate_left
   ·rw[b4]
    go_wp2
    go_meet
    case rel=>exact⟨h4,by simp[qX,bV,b4]⟩
   rw[b4];have hmF:=DX hBN.out.l hBN.out.c b4;have hcm:0<=N.commit/\N.commit<=N.log.length:=hBN.out.c;have hll:N.log.length<=200:=oV hBN.out.l;have hel:m.ents.length<=1048576:=hmz.l
   have hfi:0<=m.index/\m.index<=(N.log.length:Int):=by
    have:=of_decide_eq_true b4;exact⟨this.1,this.2.1⟩
   have HG:Hid (Q8 N m=⟨N.id,N.peers,N.term,N.vote,kU (bV N) m,1,max N.commit (min m.commit (m.index+(m.ents.length:Int))),[],[],[]⟩):=rfl
   go_wp2_with fail
   refine (B3 N lo4 lc4 m eo ec hzN.l h4.o.K.l hzN.tx hmz hEc _ h4.o.M.l hEn4).mono ?_;rintro e w6 ⟨ao,cap,rfl,hcap,hown,hb6⟩;have h6:=RS.next h4 hb6;have hown':Hid (BE (bV N) m=true->OwE w6 base ao cap (kU (bV N) m)):=fun q=>(hown q).from (Nat.le_trans hbs h4.c.size)
   clear hb6 f0 f1 f2 f3 f4 f5 f6 f7 f8 f9 g0 g1 g2 g3 g4 g5 g6 g7 g8 h2 h4 hEn2 hEn4 hown b4;obtain⟨f0,f1,f2,f3,f4,f5,f6,f7,f8,f9⟩:=cN h6.a;obtain⟨g0,g1,g2,g3,g4,g5,g6,g7,g8⟩:=cM h6.m;generalize kU (bV N) m=L at hcap hown' HG hmF ⊢;generalize BE (bV N) m=mo at hown' hmF ⊢;replace hmF:Hid _:=hmF
   go_wp2_with fail
   clear f0 f1 f2 f3 f4 f5 f6 f7 f8 f9 g0 g1 g2 g3 g4 g5 g6 g7 g8
   go_loopw [15,16] (fun x15 x16 wr=>∃ k:Nat,(k:Int)<=N.commit/\x15=.bool (mo&&S1 L N.log k)/\x16=.int .i64 (k:Int)/\RB w6 wr) (fun _ x _=>(N.commit-intOf x).toNat)
   case atStart=>exact⟨0,hcm.1,by rw[BA,Bool.and_true],rfl,rr _⟩
   case round=>
    obtain⟨k,hk,rfl,rfl,hR⟩:=hrel;have h7:=RS.next h6 hR;obtain⟨f0,f1,f2,f3,f4,f5,f6,f7,f8,f9⟩:=cN h7.a;obtain⟨g0,g1,g2,g3,g4,g5,g6,g7,g8⟩:=cM h7.m;rcases bq (mo&&S1 L N.log k) with b5|b5
    rotate_left
    ·rw[b5]
     have hF4:qX (bV N) m=false:=by
      rw[hmF.out];cases mo
      ·rfl
      ·rw[Bool.true_and]at b5 ⊢
       exact B5 (by omega) (by omega) b5
     by_cases hlt:(k:Int)<N.commit
     ·go_wp2
      go_meet
      case rel=>exact⟨h7,hF4⟩
     ·go_wp2
      go_meet
      case rel=>exact⟨h7,hF4⟩
    rw[b5];have hmo:mo=true/\S1 L N.log k=true:=by simpa using b5
    obtain⟨rfl,hag⟩:=hmo;have hown7:=(hown'.out rfl).next hR
    by_cases hlt:(k:Int)<N.commit
    ·go_wp2_with fail
     clear f0 f1 f2 f3 f4 f5 f6 f7 f8 f9 g0 g1 g2 g3 g4 g5 g6 g7 g8
     obtain⟨gl,ol,eg,_,hcl⟩:=h7.o.M.l (fun q=>by
      have:=dE N.log;have q':dZ N.log=[]:=q;rw[q']at this;simp at this
      omega)
     have eg':lo4=some ⟨gl,ol,none⟩:=eg;subst eg';have hkN:k<N.log.length:=by omega
     have HB0:=lO (l:=N.log) hkN
     have HA0:∃ ga oa,k<L.length->ao=some ⟨ga,oa,none⟩/\wr.cell? ⟨ga,oa+k*2,none⟩=some (.int .i64 (cL L k))/\wr.cell? ⟨ga,oa+k*2+1,none⟩=some (.string (cS L k)):=by
      by_cases q:k<L.length
      ·obtain⟨ga,oa,e1,_,hca⟩:=hown7.row (fun q2=>by
        have:=dE L;rw[q2]at this;simp at this
        omega)
       have h8:=lO (l:=L) q;exact⟨ga,oa,fun _=>⟨e1,hca _ _ h8.1,by rw[Nat.add_assoc];exact hca _ _ h8.2⟩⟩
      ·exact⟨0,0,fun q2=>absurd q2 q⟩
     obtain⟨ga,oa,HA1⟩:=HA0;have hd:RB wr wr.drew:=(Below.refl _ _).drew;have hD:=RS.next h7 hd;have HB1:Hid (wr.drew.cell? ⟨gl,ol+k*2,none⟩=some (.int .i64 (cL N.log k))/\wr.drew.cell? ⟨gl,ol+k*2+1,none⟩=some (.string (cS N.log k))):=⟨aB hd nl (hcl _ _ HB0.1),aB hd nl (by rw[Nat.add_assoc];exact hcl _ _ HB0.2)⟩
     replace HA1:Hid (k<L.length->ao=some ⟨ga,oa,none⟩/\wr.drew.cell? ⟨ga,oa+k*2,none⟩=some (.int .i64 (cL L k))/\wr.drew.cell? ⟨ga,oa+k*2+1,none⟩=some (.string (cS L k))):=fun q=>⟨(HA1 q).1,aB hd nl (HA1 q).2.1,aB hd nl (HA1 q).2.2⟩
     have hst:=B4 (a:=L) hkN;rw[hag,Bool.true_and]at hst;have HST:Hid (S1 L N.log (k+1)=(decide (k<L.length)&&decide (cL L k=cL N.log k/\cS L k=cS N.log k))):=hst;have hk0:(0:Int)<=(k:Int):=by omega
     have hkn:(k:Int)<(N.log.length:Int):=by omega
     have hR8:=rt _ _ _ hR hd;clear hcl HB0 h7 hown7 hag hst hd b5;obtain⟨b191,qb191⟩:∃ b:Bool,b=(decide ((k:Int)<(L.length:Int))):=⟨_,rfl⟩
     obtain⟨c4t,hc4t⟩:∃ c:Bool,c=(true&&((b191)==true)):=⟨_,rfl⟩
     obtain⟨b202,qb202⟩:∃ b:Bool,b=(decide (cL L k=cL N.log k/\cS L k=cS N.log k)):=⟨_,rfl⟩
     obtain⟨b203,qb203⟩:∃ b:Bool,b=((b191&&b202)):=⟨_,rfl⟩
     refine bQ (by kernel_rfl) (by kernel_rfl) RB rr rt
      [isV (.int .i64 (k:Int)),isV (.slice ao L.length cap),isV (.int .i64 (L.length:Int)),isV (.bool b191),isV (.bool b191),isV (gv c4t (.slice ao L.length cap)),isV (gv c4t (.int .i64 (k:Int))),isV (gv c4t (.pointer (some ⟨ga,oa+k*2,none⟩))),isV (gv c4t (.agg #[.int .i64 (cL L k),.string (cS L k)])),isV (gv c4t (.pointer (some ⟨w.heap.size,4,none⟩))),isV (gv c4t (.slice (some ⟨gl,ol,none⟩) N.log.length lc4)),isV (gv c4t (.int .i64 (k:Int))),isV (gv c4t (.pointer (some ⟨gl,ol+k*2,none⟩))),isV (gv c4t (.agg #[.int .i64 (cL N.log k),.string (cS N.log k)])),isV (gv c4t (.bool b202)),isV (.bool b203),isV (.bool b203)]
      ⟨iR,iR,iR,iR,iR,iR,iR,iR,iR,iR,iR,iR,iR,iR,iR,iR,iR,trivial⟩ rfl ?_ ?_
     ·refine⟨?_,?_,?_,?_,?_,?_,?_,?_,?_,?_,?_,?_,?_,?_,?_,?_,?_,trivial⟩
      ·exact ow 16
      ·exact ow 14
      ·exact o1 1 189
      ·exact zS 0 188 2 190 qb191
      ·exact o1 3 191
      ·exact gw 4 192 hc4t 14 nt
      ·exact gw 4 192 hc4t 16 nt
      ·exact OpOk.gd rr 4 192 true true (b191) (fun _ _ h=>h) c4t hc4t _ (fun _=>rfl) fun ev w' v hR E pr hC=>by
        have e1:=E.eq pr 5 193;have e2:=E.eq pr 6 194
        have hkL:k<L.length:=by
         rcases Nat.lt_or_ge k L.length with q|q
         ·exact q
         ·exfalso
          have q':¬ ((k:Int)<(L.length:Int)):=by omega
          simp[hC,qb191,q']at hc4t
        obtain⟨ea,ca,cb⟩:=HA1.out hkL;have hkl:(k:Int)<(L.length:Int):=by omega
        simp[go_sem,gv,hC,hc4t,ea,hk0,hkl,e1,e2]
      ·exact OpOk.gd rr 4 192 true true (b191) (fun _ _ h=>h) c4t hc4t _ (fun _=>rfl) fun ev w' v hR E pr hC=>by
        have e1:=E.eq pr 7 195
        have hkL:k<L.length:=by
         rcases Nat.lt_or_ge k L.length with q|q
         ·exact q
         ·exfalso
          have q':¬ ((k:Int)<(L.length:Int)):=by omega
          simp[hC,qb191,q']at hc4t
        obtain⟨ea,ca,cb⟩:=HA1.out hkL;have hkl:(k:Int)<(L.length:Int):=by omega
        replace ca:=aB hR nl ca;replace cb:=aB hR nl cb;simp[go_sem,gv,hC,hc4t,ca,cb,e1]
      ·exact gw 4 192 hc4t 2 nt
      ·exact OpOk.gd rr 4 192 true true (b191) (fun _ _ h=>h) c4t hc4t _ (fun _=>rfl) fun ev w' v hR E pr hC=>by
        have e1:=E.eq pr 9 197;have cc:=(hD.a.next hR).cell (j:=4) (by omega);simp[lf,bV]at cc;simp[go_sem,gv,hC,hc4t,cc,e1]
      ·exact gw 4 192 hc4t 16 nt
      ·exact OpOk.gd rr 4 192 true true (b191) (fun _ _ h=>h) c4t hc4t _ (fun _=>rfl) fun ev w' v hR E pr hC=>by
        have e1:=E.eq pr 10 198;have e2:=E.eq pr 11 199;simp[go_sem,gv,hC,hc4t,hk0,hkn,e1,e2]
      ·exact OpOk.gd rr 4 192 true true (b191) (fun _ _ h=>h) c4t hc4t _ (fun _=>rfl) fun ev w' v hR E pr hC=>by
        have e1:=E.eq pr 12 200;have cc:=aB hR nl HB1.out.1;have cd:=aB hR nl HB1.out.2;simp[go_sem,gv,hC,hc4t,cc,cd,e1]
      ·exact OpOk.gd rr 4 192 true true (b191) (fun _ _ h=>h) c4t hc4t _ (fun _=>rfl) fun ev w' v hR E pr hC=>by
        have e1:=E.eq pr 8 196;have e2:=E.eq pr 13 201;rw[hC]at e1;rw[hC]at e2;rw[qb202];exact BB rfl e1 e2
      ·exact oq rfl fun ev w' v hR E pr=>by
        have e1:=E.eq pr 4 192;have e2:=E.eq pr 14 202;rcases bq (b191) with hs|hs<;>simp[go_sem,E.con,qb203,gv,hc4t,e1,e2,hs]
      ·exact o1 15 203
     ·intro v w' hR hp
      obtain⟨_,_,_,_,_,_,_,_,_,_,_,_,_,_,_,p15,p16,_⟩:=hp;replace p15:v 15=.bool b203:=p15;replace p16:v 16=.bool b203:=p16;simp only[bF,Nat.zero_add,Nat.reduceAdd,p15,p16,Act.put,sY,sZ,ss]
      have hb3:b203=S1 L N.log (k+1):=by
       rw[HST.out,qb203,qb191,qb202]
       congr 1
       simp
      clear qb203 qb191 qb202 hc4t HA1 HB1 hD;replace hR8:=rt _ _ _ hR8 hR;have hwk:IntKind.i64.wrap ((k:Int)+1)=(k:Int)+1:=wi
      replace hb3:Hid (b203 = _):=hb3;go_wp2
      go_roundw
      case rel=>exact⟨k+1,by omega,by rw[hb3.out];rfl,by go_num,hR8⟩
      case measure=>simp[intOf];omega
    ·have hkc:N.commit.toNat=k:=by omega
     have hF4:qX (bV N) m=true:=by rw[hmF.out,hkc,hag];rfl
     have HN:Hid (gE (rc1 n m) m=(⟨N.id,N.peers,N.term,N.vote,L,1,max N.commit (min m.commit (m.index+(m.ents.length:Int))),[],[],[]⟩:Nd)):=by show _ = _;rw[HA.out,if_pos hF4];exact HG.out
     have HL:Hid (iQ (rc1 n m) m=[(⟨4,N.term,N.id,m.frm,(m.index+(m.ents.length:Int)),0,[],0,true⟩:Ms)]):=by show _ = _;rw[HB.out,if_pos hF4];rfl
     clear HA HB hF4 hkc hag HG hmF;have hwt:IntKind.i64.wrap (m.index+(m.ents.length:Int))=(m.index+(m.ents.length:Int)):=wi
     go_wp2_with (first|((with_reducible refine wN 24 (.tmp 212) (.tmp 211) (w.heap.size) 4 (.slice ao L.length cap) ((⟨N.id,N.peers,N.term,N.vote,L,1,N.commit,[],[],[]⟩:Nd)) (⟨ao,cap,vo4,vc4,no4,nc4,mo4,mc4⟩) h7.a ?_);intro W8 v8 gA8;have o8:=h7.o.gr gA8 (bA h7.a) (by decide) (by decide);have h8:RS w base qb e0 (⟨N.id,N.peers,N.term,N.vote,L,1,N.commit,[],[],[]⟩:Nd) ⟨ao,cap,vo4,vc4,no4,nc4,mo4,mc4⟩ m eo ec (⟨4,N.term,N.id,m.frm,0,0,[],0,false⟩:Ms) W8:=h7.putA v8 ⟨hown7.gr gA8 (bA h7.a) (by decide),o8.v,o8.x,o8.m,o8.vx,o8.vm,o8.xm⟩ gA8;clear f0 f1 f2 f3 f4 f5 f6 f7 f8 f9 g0 g1 g2 g3 g4 g5 g6 g7 g8 gA8 v8 o8;obtain⟨f0,f1,f2,f3,f4,f5,f6,f7,f8,f9⟩:=cN h8.a;obtain⟨g0,g1,g2,g3,g4,g5,g6,g7,g8⟩:=cM h8.m)|fail)
     clear f0 f1 f2 f3 f4 f5 f6 f7 f8 f9 g0 g1 g2 g3 g4 g5 g6 g7 g8;have hd:RB W8 W8.drew:=(Below.refl _ _).drew;have hD:=RS.next h8 hd;clear hd
     refine bW (by kernel_rfl) (by kernel_rfl) (by kernel_rfl) RB rr rt
      [isV (.pointer (some ⟨w.heap.size,6,none⟩)),isV (.int .i64 N.commit),isV (.pointer (some ⟨w.heap.size+1,7,none⟩)),isV (.int .i64 m.commit),isV (.int .i64 (m.index+(m.ents.length:Int))),isV (.int .i64 (min (m.commit) ((m.index+(m.ents.length:Int))))),isV (.int .i64 (max (N.commit) ((min (m.commit) ((m.index+(m.ents.length:Int))))))),isV (.pointer (some ⟨w.heap.size,6,none⟩))]
      ⟨iR,iR,iR,iR,iR,iR,iR,iR,trivial⟩ rfl ?_ _ rfl rfl rfl
      (fun v9 W9=>RS w base qb e0 (⟨N.id,N.peers,N.term,N.vote,L,1,max N.commit (min m.commit (m.index+(m.ents.length:Int))),[],[],[]⟩:Nd) ⟨ao,cap,vo4,vc4,no4,nc4,mo4,mc4⟩ m eo ec (⟨4,N.term,N.id,m.frm,0,0,[],0,false⟩:Ms) W9) ?_ ?_
     ·simp only[List.size_toArray,List.length_cons,List.length_nil,Nat.reduceAdd,Nat.reduceSub,List.take_succ_cons,List.take_zero]
      refine⟨?_,?_,?_,?_,?_,?_,?_,?_,trivial⟩
      ·exact ow 2
      ·exact oc 0 213 fun _ hR=>(hD.a.next hR).cell (j:=6) (by omega)
      ·exact ow 3
      ·exact oc 2 215 fun _ hR=>(hD.m.next hR).cell (j:=7) (by omega)
      ·exact ow 17
      ·exact OpOk.ret _ (fun _=>rfl) fun ev w9 v hR E pr=>by
        have e1:=E.eq pr 3 216;have e2:=E.eq pr 4 217;refine⟨83,#[.int .i64 m.commit,.int .i64 (m.index+(m.ents.length:Int))],by simp[go_sem,gv,e1,e2,E.fn],?_⟩;exact kW (m.commit) ((m.index+(m.ents.length:Int))) _
      ·exact OpOk.ret _ (fun _=>rfl) fun ev w9 v hR E pr=>by
        have e1:=E.eq pr 1 214;have e2:=E.eq pr 5 218;refine⟨69,#[.int .i64 N.commit,.int .i64 (min (m.commit) ((m.index+(m.ents.length:Int))))],by simp[go_sem,gv,e1,e2,E.fn],?_⟩;exact jH (N.commit) ((min (m.commit) ((m.index+(m.ents.length:Int))))) _
      ·exact ow 2
     ·intro ev w9 v hR E hp9
      obtain⟨_,_,_,_,_,_,p6,p7,_⟩:=hp9;have E1:=E.at_ 7 220 rfl (by kernel_rfl) (nb (by kernel_rfl));have E2:=E.at_ 6 219 rfl (by kernel_rfl) (nb (by kernel_rfl));rw[p7]at E1;rw[p6]at E2;have h9:=RS.next hD hR;have g9:=aC w9 w.heap.size 6 (.int .i64 (max N.commit (min m.commit (m.index+(m.ents.length:Int)))));have o9:=h9.o.gr g9 (bA h9.a) (by decide) (by decide);exact⟨_,cI rfl E1 E2 h9.a (by omega) (by kernel_rfl) rfl (dT rfl),h9.putA (NdB.put h9.a 6 (by omega) _ rfl) ⟨o9.l,o9.v,o9.x,o9.m,o9.vx,o9.vm,o9.xm⟩ g9⟩
     ·intro v9 W9 h9
      simp only[List.size_toArray,List.length_cons,List.length_nil,Nat.reduceAdd,Nat.reduceSub,List.take_succ_cons,List.take_zero];rw[mF v9 _ 0 213]
      rotate_left
      ·kernel_rfl
      ·exact nb (by kernel_rfl)
      simp only[yU,List.length_cons,List.length_nil,List.take_succ_cons,List.take_zero,List.drop_succ_cons,List.drop_zero,List.cons_append,List.nil_append,Nat.reduceAdd,Nat.zero_add];clear hD;obtain⟨f0,f1,f2,f3,f4,f5,f6,f7,f8,f9⟩:=cN h9.a
      go_wp2_with (first|((with_reducible refine wM 4 (.tmp 221) (.const (.bool true)) (qb) 8 (.bool true) ((⟨4,N.term,N.id,m.frm,0,0,[],0,true⟩:Ms)) h9.q ?_);intro W10 vQ10 gQ;have h10:RS w base qb e0 (⟨N.id,N.peers,N.term,N.vote,L,1,max N.commit (min m.commit (m.index+(m.ents.length:Int))),[],[],[]⟩:Nd) ⟨ao,cap,vo4,vc4,no4,nc4,mo4,mc4⟩ m eo ec (⟨4,N.term,N.id,m.frm,0,0,[],0,true⟩:Ms) W10:=h9.putQ vQ10 gQ;clear f0 f1 f2 f3 f4 f5 f6 f7 f8 f9 gQ vQ10;obtain⟨f0,f1,f2,f3,f4,f5,f6,f7,f8,f9⟩:=cN h10.a)|((with_reducible refine wM 2 (.tmp 223) (.tmp 222) (qb) 4 (.int .i64 (m.index+(m.ents.length:Int))) ((⟨4,N.term,N.id,m.frm,(m.index+(m.ents.length:Int)),0,[],0,true⟩:Ms)) h10.q ?_);intro W11 vQ11 gQ;have h11:=h10.putQ vQ11 gQ;clear gQ vQ11)|fail)
      clear f0 f1 f2 f3 f4 f5 f6 f7 f8 f9;generalize (⟨N.id,N.peers,N.term,N.vote,L,1,max N.commit (min m.commit (m.index+(m.ents.length:Int))),[],[],[]⟩:Nd)=M at h11 HN;generalize hRE:(⟨4,N.term,N.id,m.frm,(m.index+(m.ents.length:Int)),0,[],0,true⟩:Ms)=RE at h11 HL;have HZ:Hid (RE.ents=[]):=by show _ = _;rw[<-hRE]
      clear hRE;have hd:RB W11 W11.drew:=(Below.refl _ _).drew;have hD:=RS.next h11 hd;clear hd
      refine cY (by kernel_rfl) (by kernel_rfl) 3 [0] [1,2,4] (by kernel_rfl) (by kernel_rfl)
       (fun u v=>u.grownBy v (some (w.heap.size+1+1))/\aG u (w.heap.size+1+1) 27)
       (fun W5=>NdB W5 (w.heap.size+1+1) M ⟨ao,cap,vo4,vc4,no4,nc4,mo4,mc4⟩/\NdO W5 base M ⟨ao,cap,vo4,vc4,no4,nc4,mo4,mc4⟩/\Ch base w W5/\MsB W5 qb RE none 0)
       (fun a b h hR=>⟨vn h.1 hR,h.2.1.next hR,h.2.2.1.trans (Ch.of_rb hR),vn h.2.2.2 hR⟩)
       [isV (aX M ⟨ao,cap,vo4,vc4,no4,nc4,mo4,mc4⟩),isV (eS RE none 0),NetV w.heap.size [RE],fun _ _=>True,NetV w.heap.size [RE]]
       ⟨iR,iR,NetV.rb,fun _ _ _ h _=>h,NetV.rb,trivial⟩ ?_ ?_ (kR ?_) _ rfl rfl ?_ ?_
      ·intro i hi v a b h hx
       simp only[List.mem_cons,List.not_mem_nil,or_false]at hi;rcases hi with rfl|rfl|rfl
       ·exact h
       ·exact NetV.gr h hx.1 hx.2
       ·exact NetV.gr h hx.1 hx.2
      ·intro i hi o ho
       simp only[List.mem_cons,List.not_mem_nil,or_false]at hi;subst hi;obtain rfl:=oI ho
       exact oq rfl fun ev w9 v hR E pr=>by
        have e1:=E.was 2 _;exact bD rfl e1 (vn hD.a hR)
      ·refine aD rfl (aM ?_ (aM ?_ (aD rfl (aM ?_ trivial))))
       ·exact LateOk.get _ (fun _=>rfl) fun ev w9 v hR E pr=>by
         have e1:=E.was 8 _
         have vv:MsB w9 qb RE none 0:=by
          rcases hR with hR|hR
          ·exact vn hD.q hR
          ·exact hR.2.2.2
         exact gJ rfl e1 vv
       ·intro ev w9 v hR E pr
        have e1:ev (.tmp 225)=eS RE none 0:=E.kept pr 1 225
        have hs9:w.heap.size<=w9.heap.size:=by
         rcases hR with hR|hR
         ·exact Nat.le_trans hD.c.size hR.size
         ·exact hR.2.2.1.size
        exact⟨.slice (some ⟨w9.heap.size,0,none⟩) 1 1,w9.alloc (.cells (bZ RE none 0).toArray 29),(by (simp[go_sem,e1])<;>rfl),ra _ _,NetV.from (jM w9 RE HZ.out) hs9⟩
       ·intro ev w9 v hR E pr
        exact⟨ev (.tmp 226),w9,by simp[go_sem],rr _,E.kept pr 2 226⟩
      ·intro ev w5 v hR E hp
       have E1:ev (.tmp 224)=aX M ⟨ao,cap,vo4,vc4,no4,nc4,mo4,mc4⟩:=E.get hp 0 224;have E2:ev (.tmp 4)=.pointer (some ⟨w.heap.size+1+1,0,none⟩):=E.was 4 _;have hD5:=RS.next hD hR;have hg:w5.grownBy (setL w5 (w.heap.size+1+1) 0 (aJ M ⟨ao,cap,vo4,vc4,no4,nc4,mo4,mc4⟩)) (some (w.heap.size+1+1)):=bP _ _ 0 _;exact⟨_,bU (aJ M ⟨ao,cap,vo4,vc4,no4,nc4,mo4,mc4⟩) rfl E2 E1 hD5.r (by kernel_rfl) (cD (by kernel_rfl)),⟨hg,hD5.r.typed⟩,bE _ hD5.r,hD5.o.gr hg (bA hD5.r) (by decide) (by decide),hD5.c.box hg (by omega),VHas.gr hD5.q hg (bA hD5.r) (by decide)⟩
      ·intro v8 w8 hP8 hk8
       have k8:NetV w.heap.size [RE] (v8 4) w8:=hk8 4 (by decide) (nb (by kernel_rfl)) (by decide);simp only[bF,Nat.zero_add,Nat.reduceAdd,Act.put,sY,sZ,ss];obtain⟨hv9,hO9,hC9,_⟩:=hP8;obtain⟨q0,q1,q2,q3,q4,q5,q6,q7,q8,q9⟩:=cN hv9;go_wp2;exact bodyPost_ret (v:=.tuple #[aX M ⟨ao,cap,vo4,vc4,no4,nc4,mo4,mc4⟩,v8 4]) (by simp[results,Tryz.results37,go_sem,q0,q1,q2,q3,q4,q5,q6,q7,q8,q9]) rfl (by rw[HN.out,HL.out];exact⟨⟨ao,cap,vo4,vc4,no4,nc4,mo4,mc4⟩,v8 4,rfl,hO9,k8,hC9⟩)
end
end Go.Proofs.YtbabakgjkloabaaGreatDoor
