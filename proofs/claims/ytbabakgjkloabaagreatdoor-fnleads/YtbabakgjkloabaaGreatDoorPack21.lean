/-
  Helpers: Sr4, Sru, Cl3.
-/
import Derived.Test.YtbabakgjkloabaaGreatDoorPack2
import Derived.Test.YtbabakgjkloabaaGreatDoorPack8
import Derived.Test.YtbabakgjkloabaaGreatDoorPack1
import Derived.Test.YtbabakgjkloabaaGreatDoorPack17
import Derived.Test.YtbabakgjkloabaaGreatDoorPack18
import Derived.Test.YtbabakgjkloabaaGreatDoorPack12
import Derived.Test.YtbabakgjkloabaaGreatDoorPack16
import Derived.Deep.DeepCutAuto
import Derived.Test.YtbabakgjkloabaaGreatDoorPack19
import Derived.Test.YtbabakgjkloabaaGreatDoorPack20
import Derived.Test.YtbabakgjkloabaaGreatDoorPack9
import Derived.Test.YtbabakgjkloabaaGreatDoorPack11
set_option linter.unusedVariables false
set_option linter.unusedSimpArgs false
namespace Go.Proofs.YtbabakgjkloabaaGreatDoor
section
open Go Go.RowKit
attribute [local go_sem ↓] Go.wp_at_zero Go.wp_at_succ
theorem OwI.cell4 {w:World} {base cap g:Nat} {l:List Int} (h:OwI w base (some ⟨g,0,none⟩) cap l) (j:Nat) (hj:j<l.length):w.cell? ⟨g,j,none⟩=some (.int .i64 (iOf l j)):=by
 have:=VHas.cell (OwI.cells h (by omega)) (j:=j) (by omega);rw[ilc_lf _ _ hj]at this;exact this
theorem RS.setM {w W:World} {base qb e0:Nat} {N:Nd} {lo vo no:Option Addr} {lc vc nc gm mc:Nat} {m:Ms} {eo:Option Addr} {ec:Nat} {RE:Ms} (h:RS w base qb e0 N ⟨lo,lc,vo,vc,no,nc,some ⟨gm,0,none⟩,mc⟩ m eo ec RE W) (fr:Nat) (hf:fr<N.mat.length) (x:Int):RS w base qb e0 (amN N fr x) ⟨lo,lc,vo,vc,no,nc,some ⟨gm,0,none⟩,mc⟩ m eo ec RE (W.setCell ⟨gm,fr,none⟩ (.int .i64 x)):=by
 obtain⟨h1,h2⟩:=h.o.setM fr hf x;have hv:=OwI.cells h.o.m (by show 0<N.mat.length;omega);have g:=gr_setCell W gm fr (.int .i64 x);have hT:∀ z,some gm=some z->Typed W z 2:=fun z e=>by cases e;exact hv.typed
 exact⟨(VHas.gr h.a g hT (by decide)).congr (fun j hj=>by rw[ndL_am]),VHas.gr h.m g hT (by decide),VHas.gr h.r g hT (by decide),VHas.gr h.q g hT (by decide),h1,GOwn.gr h.z g hT (by decide),h.c.trans h2,h.s,h.t⟩
theorem RS.setX {w W:World} {base qb e0:Nat} {N:Nd} {lo vo mo:Option Addr} {lc vc gx nc mc:Nat} {m:Ms} {eo:Option Addr} {ec:Nat} {RE:Ms} (h:RS w base qb e0 N ⟨lo,lc,vo,vc,some ⟨gx,0,none⟩,nc,mo,mc⟩ m eo ec RE W) (fr:Nat) (hf:fr<N.next.length) (x:Int):RS w base qb e0 (axN N fr x) ⟨lo,lc,vo,vc,some ⟨gx,0,none⟩,nc,mo,mc⟩ m eo ec RE (W.setCell ⟨gx,fr,none⟩ (.int .i64 x)):=by
 obtain⟨h1,h2⟩:=h.o.setX fr hf x;have hv:=OwI.cells h.o.x (by show 0<N.next.length;omega);have g:=gr_setCell W gx fr (.int .i64 x);have hT:∀ z,some gx=some z->Typed W z 2:=fun z e=>by cases e;exact hv.typed
 exact⟨(VHas.gr h.a g hT (by decide)).congr (fun j hj=>by rw[ndL_ax]),VHas.gr h.m g hT (by decide),VHas.gr h.r g hT (by decide),VHas.gr h.q g hT (by decide),h1,GOwn.gr h.z g hT (by decide),h.c.trans h2,h.s,h.t⟩
theorem NdZ.am {n:Nd} {s:NdS} (h:NdZ n s) (fr:Nat) (x:Int):NdZ (amN n fr x) s:=
 ⟨h.l,h.v,h.x,by simp only[amN,List.length_set];exact h.m,h.lc,h.vc,h.xc,by simp only[amN,List.length_set];exact h.mc,h.tx⟩
theorem NdZ.ax {n:Nd} {s:NdS} (h:NdZ n s) (fr:Nat) (x:Int):NdZ (axN n fr x) s:=
 ⟨h.l,h.v,by simp only[axN,List.length_set];exact h.x,h.m,h.lc,h.vc,by simp only[axN,List.length_set];exact h.xc,h.mc,h.tx⟩
theorem amN_same (n:Nd) (fr:Nat) (h:fr<n.mat.length):amN n fr (iOf n.mat fr)=n:=by
 have e:n.mat.set fr (iOf n.mat fr)=n.mat:=by
  have:iOf n.mat fr=n.mat[fr]:=by simp[iOf,h]
  rw[this];exact List.set_getElem_self h
 cases n;simp only[amN] at *
 rw[e]
set_option maxRecDepth 100000 in
set_option maxHeartbeats 16000000 in
theorem specRecv4_any (n:Nd) (s:NdS) (hz:NdZ n s) (m:Ms) (eo:Option Addr) (ec:Nat) (hmz:MsZ m) (hB:nodeB n=true) (hix:-9223372036854775808<=m.index/\m.index<=9223372036854775807) (base:Nat) (w:World) (hbs:base<=w.heap.size) (hO:NdO w base n s) (hE:MsM w m eo ec) (hk:m.kind=4) (hF:forB n m=true):Calls Tryz.prog 37 #[ndV n s,msV m eo ec] w fun e w'=>ReA base (rkN (rc1 n m) m) (rkL (rc1 n m) m) w w' e:=by
 have hpe:=nodeB_peers hB;replace hk:Hid (m.kind=4):=hk;have hb:=RB.trans _ _ _ (RB.trans _ _ _ (RB.alloc w (.cells (ndL n s).toArray 27)) (RB.alloc _ (.cells (msL m eo ec).toArray 29))) (RB.alloc _ (.cells (ndL nd0 ns0).toArray 27));have vA:NdB _ w.heap.size n s:=((ndB_new w n s).next (RB.alloc _ (.cells (msL m eo ec).toArray 29))).next (RB.alloc _ (.cells (ndL nd0 ns0).toArray 27));have vM:MsB _ (w.alloc (.cells (ndL n s).toArray 27)).heap.size m eo ec:=(msB_new (w.alloc (.cells (ndL n s).toArray 27)) m eo ec).next (RB.alloc _ (.cells (ndL nd0 ns0).toArray 27));have vR:=ndB_new ((w.alloc (.cells (ndL n s).toArray 27)).alloc (.cells (msL m eo ec).toArray 29)) nd0 ns0;rw[World.size_alloc]at vM;rw[World.size_alloc,World.size_alloc]at vR;have HE:Hid (∀ W,Ch base w W->LRow w 47 eo (elc m.ents)->True):=fun _ _ _=>trivial
 replace hO:=hO.next hb;have hEn:=hE.e.next hb;have hEc:=hE.c;clear HE hE;go_enter Tryz.func37,Tryz.ntmps37;refine wp_seq_h' fun K0 hK0=>?_
 go_wp2;refine hK0.out _ _ ?_;clear hK0;generalize (((w.alloc _).alloc _).alloc _)=W at hb vA vM vR hO hEn ⊢;have hal:=RB.alloc W (.cells #[] 29);have hN0:GOwn (W.alloc (.cells #[] 29)) w.heap.size 29 9 (some ⟨W.heap.size,0,none⟩) 0 0 (lf (nlc [])):=GOwn.from (GOwn.empty W 29 9 _) hb.size
 replace hb:=RB.trans _ _ _ hb hal;replace vA:=VHas.next vA hal;replace vM:=VHas.next vM hal;replace vR:=VHas.next vR hal;replace hO:=hO.next hal;replace hEn:=hEn.next hal;clear hal;obtain⟨f0,f1,f2,f3,f4,f5,f6,f7,f8,f9⟩:=cN vA;obtain⟨g0,g1,g2,g3,g4,g5,g6,g7,g8⟩:=cM vM
 go_wp2_with fail
 generalize W.heap.size=e0 at hN0 ⊢;generalize (W.alloc _)=W1 at hN0 hb vA vM vR hO hEn f0 f1 f2 f3 f4 f5 f6 f7 f8 f9 g0 g1 g2 g3 g4 g5 g6 g7 g8 ⊢;refine (specTold_any n s m eo ec ⟨hpe.1,hpe.2.1⟩ hmz.l hmz.x _ hEn).mono ?_;rintro e w1 ⟨rfl,hb1⟩;replace hb:=RB.trans _ _ _ hb hb1;replace vA:NdB w1 w.heap.size n s:=VHas.next vA hb1;replace vM:MsB w1 (w.heap.size+1) m eo ec:=VHas.next vM hb1;replace vR:NdB w1 (w.heap.size+1+1) nd0 ns0:=VHas.next vR hb1;replace hN0:=GOwn.next hN0 hb1;replace hO:=hO.next hb1;replace hEn:=hEn.next hb1;clear hb1 f0 f1 f2 f3 f4 f5 f6 f7 f8 f9 g0 g1 g2 g3 g4 g5 g6 g7 g8;have hC:Ch base w w1:=Ch.of_rb hb;have hwsz:w.heap.size+1+1<w1.heap.size:=vR.lt;clear hb;rw[hF];have hff:=hF;simp only[forB,Bool.and_eq_true]at hff
 have hfr:0<=m.frm/\m.frm<n.peers:=by
  have:=hff.2.2.1;simpa[srvB] using this
 have hmt:1<=m.term/\m.term<=100000:=⟨of_decide_eq_true hff.2.2.2.2.2.1,of_decide_eq_true hff.2.2.2.2.2.2.1⟩
 clear hff hF;obtain⟨f0,f1,f2,f3,f4,f5,f6,f7,f8,f9⟩:=cN vA;obtain⟨g0,g1,g2,g3,g4,g5,g6,g7,g8⟩:=cM vM
 go_upto_if 30 with fail
 go_cut [] from 19 to 32 (fun wc=>∃ N s2,NdB wc w.heap.size N s2/\MsB wc (w.heap.size+1) m eo ec/\NdB wc (w.heap.size+1+1) nd0 ns0/\NdO wc base N s2/\GOwn wc w.heap.size 29 9 (some ⟨e0,0,none⟩) 0 0 (lf (nlc []))/\Ch base w wc/\LRow wc 47 eo (elc m.ents)/\rc1 n m=N/\NkR N/\NdZ N s2/\N.peers=n.peers)
 case first=>
  by_cases hup:n.term<m.term
  ·have hrc:rc1 n m=(upN n m.term):=if_pos hup
   go_wp2_with (first|((with_reducible refine wN 2 (.tmp 33) (.tmp 32) (w.heap.size) 2 (.int .i64 m.term) ((⟨n.id,n.peers,m.term,n.vote,n.log,n.role,n.commit,n.votes,n.next,n.mat⟩:Nd)) (s) vA ?_);intro Wa va ga)|((with_reducible refine wpList_nd rfl 2 (.tmp 34) (.const (.int .i64 (-1))) rfl rfl (w.heap.size) 3 (.int .i64 (-1)) (by simp[go_sem]) (by simp[go_sem]) ((⟨n.id,n.peers,m.term,-1,n.log,n.role,n.commit,n.votes,n.next,n.mat⟩:Nd)) (s) va (by omega) (by kernel_rfl) (by kernel_rfl) (oneV (by kernel_rfl)) (by kernel_rfl) ?_);intro Wb vb gb)|fail)
   clear f0 f1 f2 f3 f4 f5 f6 f7 f8 f9 g0 g1 g2 g3 g4 g5 g6 g7 g8;have hOb:=(hO.gr ga (ndT vA) (by decide) (by decide)).gr gb (ndT va) (by decide) (by decide);have vMb:MsB Wb (w.heap.size+1) m eo ec:=VHas.grown (VHas.grown vM ga (fun e=>by have:=Option.some.inj e;omega)) gb (fun e=>by have:=Option.some.inj e;omega);have vRb:NdB Wb (w.heap.size+1+1) nd0 ns0:=VHas.grown (VHas.grown vR ga (fun e=>by have:=Option.some.inj e;omega)) gb (fun e=>by have:=Option.some.inj e;omega);have hNb:=GOwn.gr (GOwn.gr hN0 ga (ndT vA) (by decide)) gb (ndT va) (by decide);have hEb:=(hEn.gr ga (ndT vA) (by decide)).gr gb (ndT va) (by decide);have hCb:=(hC.box ga nl).box gb nl;have hO2:NdO Wb base (⟨n.id,n.peers,m.term,-1,n.log,n.role,n.commit,n.votes,n.next,n.mat⟩:Nd) s:=⟨hOb.l,hOb.v,hOb.x,hOb.m,hOb.vx,hOb.vm,hOb.xm⟩
   clear hO vM vR hN0 hEn hC ga vA va hOb;refine (specFollow_any (⟨n.id,n.peers,m.term,-1,n.log,n.role,n.commit,n.votes,n.next,n.mat⟩:Nd) s w.heap.size base _ (Nat.le_trans hbs hCb.size) vb hO2).mono ?_;rintro e w2 ⟨rfl,s2,vA,hO,gA⟩;have eU:folN (⟨n.id,n.peers,m.term,-1,n.log,n.role,n.commit,n.votes,n.next,n.mat⟩:Nd)=(upN n m.term):=rfl;rw[eU]at vA hO;have vM:MsB w2 (w.heap.size+1) m eo ec:=VHas.grown vMb gA (fun e=>by have:=Option.some.inj e;omega);have vR:NdB w2 (w.heap.size+1+1) nd0 ns0:=VHas.grown vRb gA (fun e=>by have:=Option.some.inj e;omega);have hN0:=GOwn.gr hNb gA (ndT vb) (by decide);have hEn:=hEb.gr gA (ndT vb) (by decide);have hC:=hCb.box gA nl;have hzU:=nkR_zO (nkR_up hB hmt) hO hz.l hz.tx (by simp[upN]) (by simp[upN]) (by simp[upN]);clear vMb vRb hNb hEb hCb hO2 vb gb gA hup eU;go_wp2
   go_meet
   case rel=>exact⟨(upN n m.term),s2,vA,vM,vR,hO,hN0,hC,hEn,hrc,nkR_up hB hmt,hzU,rfl⟩
  ·go_wp2
   go_meet
   case rel=>exact⟨n,s,vA,vM,vR,hO,hN0,hC,hEn,if_neg (by omega),nkR_of hB,hz,rfl⟩
 case rest=>
  clear vA vM vR hO hN0 hC hEn hwsz f0 f1 f2 f3 f4 f5 f6 f7 f8 f9 g0 g1 g2 g3 g4 g5 g6 g7 g8;obtain⟨N,s2,vA,vM,vR,hO,hN0,hC,hEn,hrc,hBN,hzN,hNp⟩:=hcut;have hwsz:w.heap.size+1+1<wc.heap.size:=vR.lt;replace hrc:Hid (rc1 n m=N):=hrc;replace hBN:Hid (NkR N):=hBN;replace hNp:Hid (N.peers=n.peers):=hNp;obtain⟨lo,lc,vo,vc,no,nc,mo,mc⟩:=s2;obtain⟨f0,f1,f2,f3,f4,f5,f6,f7,f8,f9⟩:=cN vA;obtain⟨g0,g1,g2,g3,g4,g5,g6,g7,g8⟩:=cM vM;have hal:=RB.alloc wc (.cells (msL ms0 none 0).toArray 29);have h0:RS w base wc.heap.size e0 N ⟨lo,lc,vo,vc,no,nc,mo,mc⟩ m eo ec ms0 (wc.alloc (.cells (msL ms0 none 0).toArray 29)):=⟨VHas.next vA hal,VHas.next vM hal,VHas.next vR hal,msB_new wc ms0 none 0,hO.next hal,GOwn.next hN0 hal,hC.trans (Ch.of_rb hal),vR.lt,(GOwn.at hN0 rfl).2⟩
  replace hEn:=hEn.next hal;clear hal vA vM vR hN0 hC hO
  go_upto_if 48 with (first|((with_reducible refine wB 29 (.tmp 8) (.tmp 45) wc.heap.size (msL (⟨0,N.term,N.id,m.frm,0,0,[],0,false⟩:Ms) none 0) h0.q ?_);intro W2 vQ2 gQ;have h1:RS w base wc.heap.size e0 N ⟨lo,lc,vo,vc,no,nc,mo,mc⟩ m eo ec (⟨0,N.term,N.id,m.frm,0,0,[],0,false⟩:Ms) W2:=h0.putQ vQ2 gQ;have hEn1:=hEn.gr gQ (fun x e=>by cases e;exact h0.q.typed) (by decide);clear f0 f1 f2 f3 f4 f5 f6 f7 f8 f9 g0 g1 g2 g3 g4 g5 g6 g7 g8 gQ vQ2;obtain⟨f0,f1,f2,f3,f4,f5,f6,f7,f8,f9⟩:=cN h1.a;obtain⟨g0,g1,g2,g3,g4,g5,g6,g7,g8⟩:=cM h1.m)|fail)
  generalize wc.heap.size=qb at h1 hwsz ⊢;clear h0 hEn
  have k1:(m.kind==1)=false:=by rw[hk.out];rfl
  have k2:(m.kind==2)=false:=by rw[hk.out];rfl
  have k3:(m.kind==3)=false:=by rw[hk.out];rfl
  have k4:(m.kind==4)=true:=by rw[hk.out];rfl
  go_upto_region 58 with fail
  clear k1 k2 k3 k4
  by_cases r3:N.role=3
  rotate_left
  ·have r3':(N.role != 3)=true:=by simp[r3]
   have HN:Hid (rkN (rc1 n m) m=N):=by show _ = _;rw[hrc.out];simp[rkN,hk.out,apdN,r3]
   have HL:Hid (rkL (rc1 n m) m=[]):=by show _ = _;rw[hrc.out];simp[rkL,hk.out]
   clear r3
   go_wp2_with (first|((with_reducible refine wB 27 (.tmp 4) (.tmp 250) (w.heap.size+1+1) (ndL (N) (⟨lo,lc,vo,vc,no,nc,mo,mc⟩)) h1.r ?_);intro W9 hv9 hg9)|fail)
   obtain⟨q0,q1,q2,q3,q4,q5,q6,q7,q8,q9⟩:=cN hv9;exact bodyPost_ret (v:=.tuple #[ndV N ⟨lo,lc,vo,vc,no,nc,mo,mc⟩,.slice (some ⟨e0,0,none⟩) 0 0]) (by simp[results,Tryz.results37,go_sem,q0,q1,q2,q3,q4,q5,q6,q7,q8,q9]) rfl (by rw[HN.out,HL.out];exact⟨⟨lo,lc,vo,vc,no,nc,mo,mc⟩,_,rfl,h1.o.gr hg9 (ndT h1.r) (by decide) (by decide),netV_z (GOwn.gr h1.z hg9 (ndT h1.r) (by decide)),h1.c.box hg9 (by omega)⟩)
  have r3':(N.role != 3)=false:=by simp[r3]
  by_cases b1:m.term=N.term
  rotate_left
  ·have b1':(m.term != N.term)=true:=by simp[b1]
   have HN:Hid (rkN (rc1 n m) m=N):=by show _ = _;rw[hrc.out];simp[rkN,hk.out,apdN,b1]
   have HL:Hid (rkL (rc1 n m) m=[]):=by show _ = _;rw[hrc.out];simp[rkL,hk.out]
   clear r3 b1
   go_wp2_with (first|((with_reducible refine wB 27 (.tmp 4) (.tmp 250) (w.heap.size+1+1) (ndL (N) (⟨lo,lc,vo,vc,no,nc,mo,mc⟩)) h1.r ?_);intro W9 hv9 hg9)|fail)
   obtain⟨q0,q1,q2,q3,q4,q5,q6,q7,q8,q9⟩:=cN hv9;exact bodyPost_ret (v:=.tuple #[ndV N ⟨lo,lc,vo,vc,no,nc,mo,mc⟩,.slice (some ⟨e0,0,none⟩) 0 0]) (by simp[results,Tryz.results37,go_sem,q0,q1,q2,q3,q4,q5,q6,q7,q8,q9]) rfl (by rw[HN.out,HL.out];exact⟨⟨lo,lc,vo,vc,no,nc,mo,mc⟩,_,rfl,h1.o.gr hg9 (ndT h1.r) (by decide) (by decide),netV_z (GOwn.gr h1.z hg9 (ndT h1.r) (by decide)),h1.c.box hg9 (by omega)⟩)
  have b1':(m.term != N.term)=false:=by simp[b1]
  obtain⟨hnl,hml,hnb⟩:=hBN.out.x r3;have HA:Hid (rkN (rc1 n m) m=if m.yes then acN (axN (amN N m.frm.toNat (apdM N m m.frm.toNat)) m.frm.toNat (apdM N m m.frm.toNat+1)) else axN N m.frm.toNat (apdX N m m.frm.toNat)):=by show _ = _;rw[hrc.out];simp[rkN,hk.out,apdN,r3,b1]
  have HL:Hid (rkL (rc1 n m) m=[]):=by show _ = _;rw[hrc.out];simp[rkL,hk.out]
  have hNpp:=hNp.out;have hfr0:0<=m.frm:=hfr.1;have hfx:m.frm.toNat<N.next.length:=by omega
  have hfm:m.frm.toNat<N.mat.length:=by omega
  have hfx':m.frm<(N.next.length:Int):=by omega
  have hfm':m.frm<(N.mat.length:Int):=by omega
  have hbx:=hnb m.frm.toNat hfx;have hll:N.log.length<=200:=logL_len hBN.out.l;clear r3 b1 hnb;obtain⟨gx,eg,_,_⟩:=h1.o.x.vh (by show 0<N.next.length;omega);simp only at eg;subst eg;obtain⟨gm,eg,_,_⟩:=h1.o.m.vh (by show 0<N.mat.length;omega);simp only at eg;subst eg;have hxx:Hid (iOf N.next m.frm.toNat<=(N.log.length:Int)+1/\1<=iOf N.next m.frm.toNat):=⟨hbx.2.1,hbx.1⟩
  have hmm:0<=iOf N.mat m.frm.toNat/\iOf N.mat m.frm.toNat<=200:=by omega
  have hxb:1<=iOf N.next m.frm.toNat/\iOf N.next m.frm.toNat<=201:=by omega
  clear hnl hbx hNpp;rcases Bool.eq_false_or_eq_true m.yes with hy|hy
  rotate_left
  ·have HN:Hid (rkN (rc1 n m) m=(axN N m.frm.toNat (max (iOf N.mat m.frm.toNat+1) (min (iOf N.next m.frm.toNat-1) (min (N.log.length:Int) m.index+1))))):=by
    show _ = _
    rw[HA.out,hy]
    have e:apdX N m m.frm.toNat=max (iOf N.mat m.frm.toNat+1) (min (iOf N.next m.frm.toNat-1) (min (N.log.length:Int) m.index+1)):=by
     have:=hxx.out;simp only[apdX];omega
    rw[<-e];rfl
   clear HA hxx
   go_wp2_with fail
   clear f0 f1 f2 f3 f4 f5 f6 f7 f8 f9 g0 g1 g2 g3 g4 g5 g6 g7 g8;have hd:RB W2 W2.drew:=(Below.refl _ _).drew;have hD:=RS.next h1 hd;clear hd;have hw1:IntKind.i64.wrap (iOf N.mat m.frm.toNat+1)=iOf N.mat m.frm.toNat+1:=by rw[IntKind.wrap_i64];omega
   have hw293:IntKind.i64.wrap ((iOf N.mat m.frm.toNat)+1)=((iOf N.mat m.frm.toNat)+1):=by rw[IntKind.wrap_i64];omega
   have hw299:IntKind.i64.wrap ((iOf N.next m.frm.toNat)-1)=((iOf N.next m.frm.toNat)-1):=by rw[IntKind.wrap_i64];omega
   have hw304:IntKind.i64.wrap ((min ((N.log.length:Int)) (m.index))+1)=((min ((N.log.length:Int)) (m.index))+1):=by rw[IntKind.wrap_i64];omega
   refine region_store (by kernel_rfl) (by kernel_rfl) (by kernel_rfl) RB RB.refl RB.trans
    [isV (.pointer (some ⟨w.heap.size,8,none⟩)),isV (.slice (some ⟨gx,0,none⟩) N.next.length nc),isV (.int .i64 m.frm),isV (.pointer (some ⟨w.heap.size,9,none⟩)),isV (.slice (some ⟨gm,0,none⟩) N.mat.length mc),isV (.int .i64 m.frm),isV (.pointer (some ⟨gm,m.frm.toNat,none⟩)),isV (.int .i64 (iOf N.mat m.frm.toNat)),isV (.int .i64 ((iOf N.mat m.frm.toNat)+1)),isV (.pointer (some ⟨w.heap.size,8,none⟩)),isV (.slice (some ⟨gx,0,none⟩) N.next.length nc),isV (.int .i64 m.frm),isV (.pointer (some ⟨gx,m.frm.toNat,none⟩)),isV (.int .i64 (iOf N.next m.frm.toNat)),isV (.int .i64 ((iOf N.next m.frm.toNat)-1)),isV (.int .i64 (N.log.length:Int)),isV (.pointer (some ⟨w.heap.size+1,4,none⟩)),isV (.int .i64 m.index),isV (.int .i64 (min ((N.log.length:Int)) (m.index))),isV (.int .i64 ((min ((N.log.length:Int)) (m.index))+1)),isV (.int .i64 (min (((iOf N.next m.frm.toNat)-1)) (((min ((N.log.length:Int)) (m.index))+1)))),isV (.int .i64 (max (((iOf N.mat m.frm.toNat)+1)) ((min (((iOf N.next m.frm.toNat)-1)) (((min ((N.log.length:Int)) (m.index))+1)))))),isV (.pointer (some ⟨gx,m.frm.toNat,none⟩))]
    ⟨isV.rb,isV.rb,isV.rb,isV.rb,isV.rb,isV.rb,isV.rb,isV.rb,isV.rb,isV.rb,isV.rb,isV.rb,isV.rb,isV.rb,isV.rb,isV.rb,isV.rb,isV.rb,isV.rb,isV.rb,isV.rb,isV.rb,isV.rb,trivial⟩ rfl ?_ _ rfl rfl rfl
    (fun v9 W9=>RS w base qb e0 (axN N m.frm.toNat (max (iOf N.mat m.frm.toNat+1) (min (iOf N.next m.frm.toNat-1) (min (N.log.length:Int) m.index+1)))) ⟨lo,lc,vo,vc,some ⟨gx,0,none⟩,nc,some ⟨gm,0,none⟩,mc⟩ m eo ec (⟨0,N.term,N.id,m.frm,0,0,[],0,false⟩:Ms) W9) ?_ ?_
   ·simp only[List.size_toArray,List.length_cons,List.length_nil,Nat.reduceAdd,Nat.reduceSub,List.take_succ_cons,List.take_zero]
    refine⟨?_,?_,?_,?_,?_,?_,?_,?_,?_,?_,?_,?_,?_,?_,?_,?_,?_,?_,?_,?_,?_,?_,?_,trivial⟩
    ·exact oq rfl fun ev w9 v hR E pr=>by
      have e1:=E.was 2 _;simp[go_sem,e1]
    ·exact oq rfl fun ev w9 v hR E pr=>by
      have e1:=E.eq pr 0 285;have cc:=(hD.a.next hR).cell (j:=8) (by omega);simp[lf,amN,axN]at cc;simp[go_sem,cc,e1]
    ·exact oq rfl fun ev w9 v hR E pr=>by
      have e1:=E.was 18 _;simp[go_sem,e1]
    ·exact oq rfl fun ev w9 v hR E pr=>by
      have e1:=E.was 2 _;simp[go_sem,e1]
    ·exact oq rfl fun ev w9 v hR E pr=>by
      have e1:=E.eq pr 3 288;have cc:=(hD.a.next hR).cell (j:=9) (by omega);simp[lf,amN,axN]at cc;simp[go_sem,cc,e1]
    ·exact oq rfl fun ev w9 v hR E pr=>by
      have e1:=E.was 18 _;simp[go_sem,e1]
    ·exact oq rfl fun ev w9 v hR E pr=>by
      have e1:=E.eq pr 4 289;have e2:=E.eq pr 5 290;simp[go_sem,hfr0,hfm',e1,e2]
    ·exact oq rfl fun ev w9 v hR E pr=>by
      have e1:=E.eq pr 6 291;have cc:=OwI.cell4 (RS.next hD hR).o.m m.frm.toNat hfm;simp[go_sem,cc,e1]
    ·exact oq rfl fun ev w9 v hR E pr=>by
      have e1:=E.eq pr 7 292;simp[go_sem,E.con,hw293,e1]
    ·exact oq rfl fun ev w9 v hR E pr=>by
      have e1:=E.was 2 _;simp[go_sem,e1]
    ·exact oq rfl fun ev w9 v hR E pr=>by
      have e1:=E.eq pr 9 294;have cc:=(hD.a.next hR).cell (j:=8) (by omega);simp[lf,amN,axN]at cc;simp[go_sem,cc,e1]
    ·exact oq rfl fun ev w9 v hR E pr=>by
      have e1:=E.was 18 _;simp[go_sem,e1]
    ·exact oq rfl fun ev w9 v hR E pr=>by
      have e1:=E.eq pr 10 295;have e2:=E.eq pr 11 296;simp[go_sem,hfr0,hfx',e1,e2]
    ·exact oq rfl fun ev w9 v hR E pr=>by
      have e1:=E.eq pr 12 297;have cc:=OwI.cell4 (RS.next hD hR).o.x m.frm.toNat hfx;simp[go_sem,cc,e1]
    ·exact oq rfl fun ev w9 v hR E pr=>by
      have e1:=E.eq pr 13 298;simp[go_sem,E.con,hw299,e1]
    ·exact oq rfl fun ev w9 v hR E pr=>by
      have e1:=E.was 7 _;simp[go_sem,e1]
    ·exact oq rfl fun ev w9 v hR E pr=>by
      have e1:=E.was 3 _;simp[go_sem,e1]
    ·exact oq rfl fun ev w9 v hR E pr=>by
      have e1:=E.eq pr 16 301;have cc:=(hD.m.next hR).cell (j:=4) (by omega);simp[lf]at cc;simp[go_sem,cc,e1]
    ·exact OpOk.ret _ (fun _=>rfl) fun ev w9 v hR E pr=>by
      have e1:=E.eq pr 15 300;have e2:=E.eq pr 17 302;refine⟨83,#[.int .i64 (N.log.length:Int),.int .i64 m.index],by simp[go_sem,gv,e1,e2,E.fn],?_⟩;exact l1Min_rb ((N.log.length:Int)) (m.index) _
    ·exact oq rfl fun ev w9 v hR E pr=>by
      have e1:=E.eq pr 18 303;simp[go_sem,E.con,hw304,e1]
    ·exact OpOk.ret _ (fun _=>rfl) fun ev w9 v hR E pr=>by
      have e1:=E.eq pr 14 299;have e2:=E.eq pr 19 304;refine⟨83,#[.int .i64 ((iOf N.next m.frm.toNat)-1),.int .i64 ((min ((N.log.length:Int)) (m.index))+1)],by simp[go_sem,gv,e1,e2,E.fn],?_⟩;exact l1Min_rb (((iOf N.next m.frm.toNat)-1)) (((min ((N.log.length:Int)) (m.index))+1)) _
    ·exact OpOk.ret _ (fun _=>rfl) fun ev w9 v hR E pr=>by
      have e1:=E.eq pr 8 293;have e2:=E.eq pr 20 305;refine⟨69,#[.int .i64 ((iOf N.mat m.frm.toNat)+1),.int .i64 (min (((iOf N.next m.frm.toNat)-1)) (((min ((N.log.length:Int)) (m.index))+1)))],by simp[go_sem,gv,e1,e2,E.fn],?_⟩;exact l1Max_rb (((iOf N.mat m.frm.toNat)+1)) ((min (((iOf N.next m.frm.toNat)-1)) (((min ((N.log.length:Int)) (m.index))+1)))) _
    ·exact oq rfl fun ev w9 v hR E pr=>by
      have e1:=E.eq pr 1 286;have e2:=E.eq pr 2 287;simp[go_sem,hfr0,hfx',e1,e2]
   ·intro ev w9 v hR E hp9
    obtain⟨_,_,_,_,_,_,_,_,_,_,_,_,_,_,_,_,_,_,_,_,_,p21,p22,_⟩:=hp9;have E1:=E.at_ 22 307 rfl (by kernel_rfl) (Nat.le_of_ble_eq_true (by kernel_rfl));have E2:=E.at_ 21 306 rfl (by kernel_rfl) (Nat.le_of_ble_eq_true (by kernel_rfl));rw[p22]at E1;rw[p21]at E2;have h9:=RS.next hD hR;exact⟨_,exec_cell rfl E1 E2 (OwI.cells h9.o.x (by omega)) (by omega) (by kernel_rfl) rfl (oneV rfl),h9.setX m.frm.toNat hfx _⟩
   ·intro v9 W9 h9
    simp only[List.size_toArray,List.length_cons,List.length_nil,Nat.reduceAdd,Nat.reduceSub,List.take_succ_cons,List.take_zero];rw[putL_seg v9 _ 0 285]
    rotate_left
    ·kernel_rfl
    ·exact Nat.le_of_ble_eq_true (by kernel_rfl)
    simp only[segV,List.length_cons,List.length_nil,List.take_succ_cons,List.take_zero,List.drop_succ_cons,List.drop_zero,List.cons_append,List.nil_append,Nat.reduceAdd,Nat.zero_add];clear hD;generalize hNX:(axN N m.frm.toNat (max (iOf N.mat m.frm.toNat+1) (min (iOf N.next m.frm.toNat-1) (min (N.log.length:Int) m.index+1))))=M at h9 HN;clear hNX;obtain⟨f0,f1,f2,f3,f4,f5,f6,f7,f8,f9⟩:=cN h9.a
    go_wp2_with (first|((with_reducible refine wB 27 (.tmp 4) (.tmp 308) (w.heap.size+1+1) (ndL (M) (⟨lo,lc,vo,vc,some ⟨gx,0,none⟩,nc,some ⟨gm,0,none⟩,mc⟩)) h9.r ?_);intro W9 hv9 hg9)|fail)
    obtain⟨q0,q1,q2,q3,q4,q5,q6,q7,q8,q9⟩:=cN hv9;exact bodyPost_ret (v:=.tuple #[ndV M ⟨lo,lc,vo,vc,some ⟨gx,0,none⟩,nc,some ⟨gm,0,none⟩,mc⟩,.slice (some ⟨e0,0,none⟩) 0 0]) (by simp[results,Tryz.results37,go_sem,q0,q1,q2,q3,q4,q5,q6,q7,q8,q9]) rfl (by rw[HN.out,HL.out];exact⟨⟨lo,lc,vo,vc,some ⟨gx,0,none⟩,nc,some ⟨gm,0,none⟩,mc⟩,_,rfl,h9.o.gr hg9 (ndT h9.r) (by decide) (by decide),netV_z (GOwn.gr h9.z hg9 (ndT h9.r) (by decide)),h9.c.box hg9 (by omega)⟩)
  have e2:iOf (amN N m.frm.toNat (apdM N m m.frm.toNat)).mat m.frm.toNat=(apdM N m m.frm.toNat):=by simp[amN,iOf,hfm]
  have hap:0<=(apdM N m m.frm.toNat)/\(apdM N m m.frm.toNat)<=200:=by unfold apdM;split<;>omega
  have HN:Hid (rkN (rc1 n m) m=acQ (axN (amN N m.frm.toNat (apdM N m m.frm.toNat)) m.frm.toNat (iOf (amN N m.frm.toNat (apdM N m m.frm.toNat)).mat m.frm.toNat+1))):=by
   show _ = _
   rw[HA.out,hy];rw[e2];rfl
  have hbM:0<=iOf (amN N m.frm.toNat (apdM N m m.frm.toNat)).mat m.frm.toNat/\iOf (amN N m.frm.toNat (apdM N m m.frm.toNat)).mat m.frm.toNat<=200:=by rw[e2];exact hap
  clear e2 hap HA;have hzM:NdZ (amN N m.frm.toNat (apdM N m m.frm.toNat)) ⟨lo,lc,vo,vc,some ⟨gx,0,none⟩,nc,some ⟨gm,0,none⟩,mc⟩:=hzN.am _ _;have hcM:0<=(amN N m.frm.toNat (apdM N m m.frm.toNat)).commit:=hBN.out.c.1;have hpM:1<=(amN N m.frm.toNat (apdM N m m.frm.toNat)).peers/\(amN N m.frm.toNat (apdM N m m.frm.toNat)).peers<=5:=hBN.out.p;have hmM:((amN N m.frm.toNat (apdM N m m.frm.toNat)).mat.length:Int)=(amN N m.frm.toNat (apdM N m m.frm.toNat)).peers:=by simp only[amN,List.length_set];exact hml
  have hqm:m.frm.toNat<(amN N m.frm.toNat (apdM N m m.frm.toNat)).mat.length:=by simp only[amN,List.length_set];exact hfm
  have hqx:m.frm.toNat<(amN N m.frm.toNat (apdM N m m.frm.toNat)).next.length:=hfx;have hqm':m.frm<((amN N m.frm.toNat (apdM N m m.frm.toNat)).mat.length:Int):=by simp only[amN,List.length_set];exact hfm'
  have hqx':m.frm<((amN N m.frm.toNat (apdM N m m.frm.toNat)).next.length:Int):=hfx'
  go_upto_if 259 with fail
  clear r3' b1' hy
  go_cut [48,49,84,85,143,144,238,239] from 240 to 260 (fun _ _ _ _ _ _ _ _ wz=>RS w base qb e0 (amN N m.frm.toNat (apdM N m m.frm.toNat)) ⟨lo,lc,vo,vc,some ⟨gx,0,none⟩,nc,some ⟨gm,0,none⟩,mc⟩ m eo ec (⟨0,N.term,N.id,m.frm,0,0,[],0,false⟩:Ms) wz)
  case first=>
   by_cases bi:m.index<=(N.log.length:Int)
   ·have e1:(apdM N m m.frm.toNat)=max (iOf N.mat m.frm.toNat) m.index:=by simp[apdM,bi]
    go_wp2_with fail
    clear f0 f1 f2 f3 f4 f5 f6 f7 f8 f9 g0 g1 g2 g3 g4 g5 g6 g7 g8;have hd:RB W2 W2.drew:=(Below.refl _ _).drew;have hD:=RS.next h1 hd;clear hd
    refine region_store (by kernel_rfl) (by kernel_rfl) (by kernel_rfl) RB RB.refl RB.trans
     [isV (.pointer (some ⟨w.heap.size,9,none⟩)),isV (.slice (some ⟨gm,0,none⟩) N.mat.length mc),isV (.int .i64 m.frm),isV (.pointer (some ⟨w.heap.size,9,none⟩)),isV (.slice (some ⟨gm,0,none⟩) N.mat.length mc),isV (.int .i64 m.frm),isV (.pointer (some ⟨gm,m.frm.toNat,none⟩)),isV (.int .i64 (iOf N.mat m.frm.toNat)),isV (.pointer (some ⟨w.heap.size+1,4,none⟩)),isV (.int .i64 m.index),isV (.int .i64 (max ((iOf N.mat m.frm.toNat)) (m.index))),isV (.pointer (some ⟨gm,m.frm.toNat,none⟩))]
     ⟨isV.rb,isV.rb,isV.rb,isV.rb,isV.rb,isV.rb,isV.rb,isV.rb,isV.rb,isV.rb,isV.rb,isV.rb,trivial⟩ rfl ?_ _ rfl rfl rfl
     (fun v9 W9=>RS w base qb e0 (amN N m.frm.toNat (max (iOf N.mat m.frm.toNat) m.index)) ⟨lo,lc,vo,vc,some ⟨gx,0,none⟩,nc,some ⟨gm,0,none⟩,mc⟩ m eo ec (⟨0,N.term,N.id,m.frm,0,0,[],0,false⟩:Ms) W9) ?_ ?_
    ·simp only[List.size_toArray,List.length_cons,List.length_nil,Nat.reduceAdd,Nat.reduceSub,List.take_succ_cons,List.take_zero]
     refine⟨?_,?_,?_,?_,?_,?_,?_,?_,?_,?_,?_,?_,trivial⟩
     ·exact oq rfl fun ev w9 v hR E pr=>by
       have e1:=E.was 2 _;simp[go_sem,e1]
     ·exact oq rfl fun ev w9 v hR E pr=>by
       have e1:=E.eq pr 0 260;have cc:=(hD.a.next hR).cell (j:=9) (by omega);simp[lf,amN,axN]at cc;simp[go_sem,cc,e1]
     ·exact oq rfl fun ev w9 v hR E pr=>by
       have e1:=E.was 18 _;simp[go_sem,e1]
     ·exact oq rfl fun ev w9 v hR E pr=>by
       have e1:=E.was 2 _;simp[go_sem,e1]
     ·exact oq rfl fun ev w9 v hR E pr=>by
       have e1:=E.eq pr 3 263;have cc:=(hD.a.next hR).cell (j:=9) (by omega);simp[lf,amN,axN]at cc;simp[go_sem,cc,e1]
     ·exact oq rfl fun ev w9 v hR E pr=>by
       have e1:=E.was 18 _;simp[go_sem,e1]
     ·exact oq rfl fun ev w9 v hR E pr=>by
       have e1:=E.eq pr 4 264;have e2:=E.eq pr 5 265;simp[go_sem,hfr0,hfm',e1,e2]
     ·exact oq rfl fun ev w9 v hR E pr=>by
       have e1:=E.eq pr 6 266;have cc:=OwI.cell4 (RS.next hD hR).o.m m.frm.toNat hfm;simp[go_sem,cc,e1]
     ·exact oq rfl fun ev w9 v hR E pr=>by
       have e1:=E.was 3 _;simp[go_sem,e1]
     ·exact oq rfl fun ev w9 v hR E pr=>by
       have e1:=E.eq pr 8 268;have cc:=(hD.m.next hR).cell (j:=4) (by omega);simp[lf]at cc;simp[go_sem,cc,e1]
     ·exact OpOk.ret _ (fun _=>rfl) fun ev w9 v hR E pr=>by
       have e1:=E.eq pr 7 267;have e2:=E.eq pr 9 269;refine⟨69,#[.int .i64 (iOf N.mat m.frm.toNat),.int .i64 m.index],by simp[go_sem,gv,e1,e2,E.fn],?_⟩;exact l1Max_rb ((iOf N.mat m.frm.toNat)) (m.index) _
     ·exact oq rfl fun ev w9 v hR E pr=>by
       have e1:=E.eq pr 1 261;have e2:=E.eq pr 2 262;simp[go_sem,hfr0,hfm',e1,e2]
    ·intro ev w9 v hR E hp9
     obtain⟨_,_,_,_,_,_,_,_,_,_,p10,p11,_⟩:=hp9;have E1:=E.at_ 11 271 rfl (by kernel_rfl) (Nat.le_of_ble_eq_true (by kernel_rfl));have E2:=E.at_ 10 270 rfl (by kernel_rfl) (Nat.le_of_ble_eq_true (by kernel_rfl));rw[p11]at E1;rw[p10]at E2;have h9:=RS.next hD hR;exact⟨_,exec_cell rfl E1 E2 (OwI.cells h9.o.m (by omega)) (by omega) (by kernel_rfl) rfl (oneV rfl),h9.setM m.frm.toNat hfm _⟩
    ·intro v9 W9 h9
     simp only[List.size_toArray,List.length_cons,List.length_nil,Nat.reduceAdd,Nat.reduceSub,List.take_succ_cons,List.take_zero];rw[putL_seg v9 _ 0 260]
     rotate_left
     ·kernel_rfl
     ·exact Nat.le_of_ble_eq_true (by kernel_rfl)
     simp only[segV,List.length_cons,List.length_nil,List.take_succ_cons,List.take_zero,List.drop_succ_cons,List.drop_zero,List.cons_append,List.nil_append,Nat.reduceAdd,Nat.zero_add];clear hD;go_wp2
     go_meet
     case rel=>rw[e1];exact h9
   have e1:(apdM N m m.frm.toNat)=iOf N.mat m.frm.toNat:=by simp[apdM,bi]
   go_wp2
   go_meet
   case rel=>rw[e1,amN_same N m.frm.toNat hfm];exact h1
  case rest=>
   clear h1 f0 f1 f2 f3 f4 f5 f6 f7 f8 f9 g0 g1 g2 g3 g4 g5 g6 g7 g8;generalize (amN N m.frm.toNat (apdM N m m.frm.toNat))=M at hcut HN hzM hcM hpM hmM hqm hqx hqm' hqx' hbM;obtain⟨f0,f1,f2,f3,f4,f5,f6,f7,f8,f9⟩:=cN hcut.a;obtain⟨g0,g1,g2,g3,g4,g5,g6,g7,g8⟩:=cM hcut.m
   go_wp2_with fail
   have hz2:NdZ (axN M m.frm.toNat (iOf M.mat m.frm.toNat+1)) ⟨lo,lc,vo,vc,some ⟨gx,0,none⟩,nc,some ⟨gm,0,none⟩,mc⟩:=hzM.ax _ _;have hd:RB wc wc.drew:=(Below.refl _ _).drew;have hD:=RS.next hcut hd;clear hd;have hw1:IntKind.i64.wrap (iOf M.mat m.frm.toNat+1)=iOf M.mat m.frm.toNat+1:=by rw[IntKind.wrap_i64];omega
   have hw280:IntKind.i64.wrap ((iOf M.mat m.frm.toNat)+1)=((iOf M.mat m.frm.toNat)+1):=by rw[IntKind.wrap_i64];omega
   refine region_store (by kernel_rfl) (by kernel_rfl) (by kernel_rfl) RB RB.refl RB.trans
    [isV (.pointer (some ⟨w.heap.size,8,none⟩)),isV (.slice (some ⟨gx,0,none⟩) M.next.length nc),isV (.int .i64 m.frm),isV (.pointer (some ⟨w.heap.size,9,none⟩)),isV (.slice (some ⟨gm,0,none⟩) M.mat.length mc),isV (.int .i64 m.frm),isV (.pointer (some ⟨gm,m.frm.toNat,none⟩)),isV (.int .i64 (iOf M.mat m.frm.toNat)),isV (.int .i64 ((iOf M.mat m.frm.toNat)+1)),isV (.pointer (some ⟨gx,m.frm.toNat,none⟩))]
    ⟨isV.rb,isV.rb,isV.rb,isV.rb,isV.rb,isV.rb,isV.rb,isV.rb,isV.rb,isV.rb,trivial⟩ rfl ?_ _ rfl rfl rfl
    (fun v9 W9=>RS w base qb e0 (axN M m.frm.toNat (iOf M.mat m.frm.toNat+1)) ⟨lo,lc,vo,vc,some ⟨gx,0,none⟩,nc,some ⟨gm,0,none⟩,mc⟩ m eo ec (⟨0,N.term,N.id,m.frm,0,0,[],0,false⟩:Ms) W9) ?_ ?_
   ·simp only[List.size_toArray,List.length_cons,List.length_nil,Nat.reduceAdd,Nat.reduceSub,List.take_succ_cons,List.take_zero]
    refine⟨?_,?_,?_,?_,?_,?_,?_,?_,?_,?_,trivial⟩
    ·exact oq rfl fun ev w9 v hR E pr=>by
      have e1:=E.was 2 _;simp[go_sem,e1]
    ·exact oq rfl fun ev w9 v hR E pr=>by
      have e1:=E.eq pr 0 272;have cc:=(hD.a.next hR).cell (j:=8) (by omega);simp[lf,amN,axN]at cc;simp[go_sem,cc,e1]
    ·exact oq rfl fun ev w9 v hR E pr=>by
      have e1:=E.was 18 _;simp[go_sem,e1]
    ·exact oq rfl fun ev w9 v hR E pr=>by
      have e1:=E.was 2 _;simp[go_sem,e1]
    ·exact oq rfl fun ev w9 v hR E pr=>by
      have e1:=E.eq pr 3 275;have cc:=(hD.a.next hR).cell (j:=9) (by omega);simp[lf,amN,axN]at cc;simp[go_sem,cc,e1]
    ·exact oq rfl fun ev w9 v hR E pr=>by
      have e1:=E.was 18 _;simp[go_sem,e1]
    ·exact oq rfl fun ev w9 v hR E pr=>by
      have e1:=E.eq pr 4 276;have e2:=E.eq pr 5 277;simp[go_sem,hfr0,hqm',e1,e2]
    ·exact oq rfl fun ev w9 v hR E pr=>by
      have e1:=E.eq pr 6 278;have cc:=OwI.cell4 (RS.next hD hR).o.m m.frm.toNat hqm;simp[go_sem,cc,e1]
    ·exact oq rfl fun ev w9 v hR E pr=>by
      have e1:=E.eq pr 7 279;simp[go_sem,E.con,hw280,e1]
    ·exact oq rfl fun ev w9 v hR E pr=>by
      have e1:=E.eq pr 1 273;have e2:=E.eq pr 2 274;simp[go_sem,hfr0,hqx',e1,e2]
   ·intro ev w9 v hR E hp9
    obtain⟨_,_,_,_,_,_,_,_,p8,p9,_⟩:=hp9;have E1:=E.at_ 9 281 rfl (by kernel_rfl) (Nat.le_of_ble_eq_true (by kernel_rfl));have E2:=E.at_ 8 280 rfl (by kernel_rfl) (Nat.le_of_ble_eq_true (by kernel_rfl));rw[p9]at E1;rw[p8]at E2;have h9:=RS.next hD hR;exact⟨_,exec_cell rfl E1 E2 (OwI.cells h9.o.x (by omega)) (by omega) (by kernel_rfl) rfl (oneV rfl),h9.setX m.frm.toNat hqx _⟩
   ·intro v9 W9 h9
    simp only[List.size_toArray,List.length_cons,List.length_nil,Nat.reduceAdd,Nat.reduceSub,List.take_succ_cons,List.take_zero];rw[putL_seg v9 _ 0 272]
    rotate_left
    ·kernel_rfl
    ·exact Nat.le_of_ble_eq_true (by kernel_rfl)
    simp only[segV,List.length_cons,List.length_nil,List.take_succ_cons,List.take_zero,List.drop_succ_cons,List.drop_zero,List.cons_append,List.nil_append,Nat.reduceAdd,Nat.zero_add];clear hD;generalize hNX:(axN M m.frm.toNat (iOf M.mat m.frm.toNat+1))=L at h9 HN hz2;have hcL:0<=L.commit:=by rw[<-hNX];exact hcM
    have hpL:1<=L.peers/\L.peers<=5:=by rw[<-hNX];exact hpM
    have hmL:(L.mat.length:Int)=L.peers:=by rw[<-hNX];exact hmM
    clear hNX
    go_wp2_with fail
    refine (specCommit_any L ⟨lo,lc,vo,vc,some ⟨gx,0,none⟩,nc,some ⟨gm,0,none⟩,mc⟩ hz2 w.heap.size hcL hpL hmL _ h9.a h9.o.M).mono ?_;rintro e w7 ⟨rfl,vC,gC⟩;have o5:=h9.o.gr gC (ndT h9.a) (by decide) (by decide);have h7:=h9.putA vC ⟨o5.l,o5.v,o5.x,o5.m,o5.vx,o5.vm,o5.xm⟩ gC;clear o5 vC gC hz2 hcL hpL hmL;generalize acQ L=A at h7 HN;obtain⟨f0,f1,f2,f3,f4,f5,f6,f7,f8,f9⟩:=cN h7.a
    go_wp2_with (first|((with_reducible refine wB 27 (.tmp 4) (.tmp 283) (w.heap.size+1+1) (ndL (A) (⟨lo,lc,vo,vc,some ⟨gx,0,none⟩,nc,some ⟨gm,0,none⟩,mc⟩)) h7.r ?_);intro W9 hv9 hg9)|fail)
    obtain⟨q0,q1,q2,q3,q4,q5,q6,q7,q8,q9⟩:=cN hv9;exact bodyPost_ret (v:=.tuple #[ndV A ⟨lo,lc,vo,vc,some ⟨gx,0,none⟩,nc,some ⟨gm,0,none⟩,mc⟩,.slice (some ⟨e0,0,none⟩) 0 0]) (by simp[results,Tryz.results37,go_sem,q0,q1,q2,q3,q4,q5,q6,q7,q8,q9]) rfl (by rw[HN.out,HL.out];exact⟨⟨lo,lc,vo,vc,some ⟨gx,0,none⟩,nc,some ⟨gm,0,none⟩,mc⟩,_,rfl,h7.o.gr hg9 (ndT h7.r) (by decide) (by decide),netV_z (GOwn.gr h7.z hg9 (ndT h7.r) (by decide)),h7.c.box hg9 (by omega)⟩)
set_option maxRecDepth 100000 in
set_option maxHeartbeats 16000000 in
theorem specRecv0_any (n:Nd) (s:NdS) (hz:NdZ n s) (m:Ms) (eo:Option Addr) (ec:Nat) (hmz:MsZ m) (hB:nodeB n=true) (hix:-9223372036854775808<=m.index/\m.index<=9223372036854775807) (base:Nat) (w:World) (hbs:base<=w.heap.size) (hO:NdO w base n s) (hE:MsM w m eo ec) (hF:forB n m=false):Calls Tryz.prog 37 #[ndV n s,msV m eo ec] w fun e w'=>ReA base n [] w w' e:=by
 have hpe:=nodeB_peers hB;have hb:=RB.trans _ _ _ (RB.trans _ _ _ (RB.alloc w (.cells (ndL n s).toArray 27)) (RB.alloc _ (.cells (msL m eo ec).toArray 29))) (RB.alloc _ (.cells (ndL nd0 ns0).toArray 27));have vA:NdB _ w.heap.size n s:=((ndB_new w n s).next (RB.alloc _ (.cells (msL m eo ec).toArray 29))).next (RB.alloc _ (.cells (ndL nd0 ns0).toArray 27));have vM:MsB _ (w.alloc (.cells (ndL n s).toArray 27)).heap.size m eo ec:=(msB_new (w.alloc (.cells (ndL n s).toArray 27)) m eo ec).next (RB.alloc _ (.cells (ndL nd0 ns0).toArray 27));have vR:=ndB_new ((w.alloc (.cells (ndL n s).toArray 27)).alloc (.cells (msL m eo ec).toArray 29)) nd0 ns0;rw[World.size_alloc]at vM;rw[World.size_alloc,World.size_alloc]at vR;have HE:Hid (∀ W,Ch base w W->LRow w 47 eo (elc m.ents)->True):=fun _ _ _=>trivial
 replace hO:=hO.next hb;have hEn:=hE.e.next hb;have hEc:=hE.c;clear HE hE;go_enter Tryz.func37,Tryz.ntmps37;refine wp_seq_h' fun K0 hK0=>?_
 go_wp2;refine hK0.out _ _ ?_;clear hK0;generalize (((w.alloc _).alloc _).alloc _)=W at hb vA vM vR hO hEn ⊢;have hal:=RB.alloc W (.cells #[] 29);have hN0:GOwn (W.alloc (.cells #[] 29)) w.heap.size 29 9 (some ⟨W.heap.size,0,none⟩) 0 0 (lf (nlc [])):=GOwn.from (GOwn.empty W 29 9 _) hb.size
 replace hb:=RB.trans _ _ _ hb hal;replace vA:NdB (W.alloc (.cells #[] 29)) w.heap.size n s:=VHas.next vA hal;replace vM:MsB (W.alloc (.cells #[] 29)) (w.heap.size+1) m eo ec:=VHas.next vM hal;replace vR:NdB (W.alloc (.cells #[] 29)) (w.heap.size+1+1) nd0 ns0:=VHas.next vR hal;replace hO:=hO.next hal;replace hEn:=hEn.next hal;clear hal;obtain⟨f0,f1,f2,f3,f4,f5,f6,f7,f8,f9⟩:=cN vA;obtain⟨g0,g1,g2,g3,g4,g5,g6,g7,g8⟩:=cM vM
 go_wp2_with fail
 generalize hWb:W.heap.size=e0 at hN0 ⊢;clear hWb;generalize (W.alloc _)=W1 at hN0 hb vA vM vR hO hEn f0 f1 f2 f3 f4 f5 f6 f7 f8 f9 g0 g1 g2 g3 g4 g5 g6 g7 g8 ⊢;refine (specTold_any n s m eo ec ⟨hpe.1,hpe.2.1⟩ hmz.l hmz.x _ hEn).mono ?_;rintro e w1 ⟨rfl,hb1⟩;replace hb:=RB.trans _ _ _ hb hb1;replace vA:NdB w1 w.heap.size n s:=VHas.next vA hb1;replace vM:MsB w1 (w.heap.size+1) m eo ec:=VHas.next vM hb1;replace vR:NdB w1 (w.heap.size+1+1) nd0 ns0:=VHas.next vR hb1;replace hN0:=GOwn.next hN0 hb1;replace hO:=hO.next hb1;replace hEn:=hEn.next hb1;clear hb1 f0 f1 f2 f3 f4 f5 f6 f7 f8 f9 g0 g1 g2 g3 g4 g5 g6 g7 g8;have hC:Ch base w w1:=Ch.of_rb hb;rw[hF];clear hF hb;have hwsz:w.heap.size+1+1<w1.heap.size:=vR.lt;obtain⟨f0,f1,f2,f3,f4,f5,f6,f7,f8,f9⟩:=cN vA;obtain⟨g0,g1,g2,g3,g4,g5,g6,g7,g8⟩:=cM vM
 go_wp2_with (first|((with_reducible refine wB 27 (.tmp 4) (.tmp 24) (w.heap.size+1+1) (ndL (n) (s)) vR ?_);intro W9 hv9 hg9)|fail)
 obtain⟨q0,q1,q2,q3,q4,q5,q6,q7,q8,q9⟩:=cN hv9;exact bodyPost_ret (v:=.tuple #[ndV n s,.slice (some ⟨e0,0,none⟩) 0 0]) (by simp[results,Tryz.results37,go_sem,q0,q1,q2,q3,q4,q5,q6,q7,q8,q9]) rfl ⟨s,_,rfl,hO.gr hg9 (ndT vR) (by decide) (by decide),netV_z (GOwn.gr hN0 hg9 (ndT vR) (by decide)),hC.box hg9 (by omega)⟩
theorem specRecv_any (n:Nd) (s:NdS) (hz:NdZ n s) (m:Ms) (eo:Option Addr) (ec:Nat) (hmz:MsZ m) (hB:nodeB n=true) (hix:-9223372036854775808<=m.index/\m.index<=9223372036854775807) (base:Nat) (w:World) (hbs:base<=w.heap.size) (hO:NdO w base n s) (hE:MsM w m eo ec):Calls Tryz.prog 37 #[ndV n s,msV m eo ec] w fun e w'=>ReA base (rcvN n m) (rcvL n m) w w' e:=by
 unfold rcvN rcvL;rcases Bool.eq_false_or_eq_true (forB n m) with hF|hF
 rotate_left
 ·rw[if_neg (by rw[hF];simp),if_neg (by rw[hF];simp)]
  exact specRecv0_any n s hz m eo ec hmz hB hix base w hbs hO hE hF
 rw[if_pos hF,if_pos hF]
 have hk:m.kind=1\/m.kind=2\/m.kind=3\/m.kind=4:=by
  simp only[forB,Bool.and_eq_true,decide_eq_true_eq]at hF;omega
 rcases hk with hk|hk|hk|hk
 ·exact specRecv1_any n s hz m eo ec hmz hB hix base w hbs hO hE hk hF
 ·exact specRecv2_any n s hz m eo ec hmz hB hix base w hbs hO hE hk hF
 ·exact specRecv3_any n s hz m eo ec hmz hB hix base w hbs hO hE hk hF
 ·exact specRecv4_any n s hz m eo ec hmz hB hix base w hbs hO hE hk hF
theorem nlc_take:∀ (l:List Mq) (i:Nat),nlc (l.take i)=(nlc l).take (i*9)
 | [],i=>by simp[nlc]
 | q :: r,0=>by simp[nlc]
 | q :: r,i+1=>by
  have e:(i+1)*9=i*9+1+1+1+1+1+1+1+1+1:=by omega
  simp only[List.take_succ_cons,nlc,nlc_take r i,e,List.cons_append,List.nil_append]
theorem nlc_drop:∀ (l:List Mq) (i:Nat),nlc (l.drop i)=(nlc l).drop (i*9)
 | [],i=>by simp[nlc]
 | q :: r,0=>by simp
 | q :: r,i+1=>by
  have e:(i+1)*9=i*9+1+1+1+1+1+1+1+1+1:=by omega
  simp only[List.drop_succ_cons,nlc,nlc_drop r i,e,List.cons_append,List.nil_append]
def SlM (l:List Mq) (v:Value) (w:World):Prop:=∃ ao c,v=.slice ao l.length c/\l.length<=c/\LRow w 29 ao (nlc l)
theorem SlM.rb {l:List Mq} (v:Value) (w w':World) (h:SlM l v w) (hb:RB w w'):SlM l v w':=by
 obtain⟨ao,c,e,hc,hr⟩:=h;exact⟨ao,c,e,hc,hr.next hb⟩
theorem toM_ok {o:Oper} {ev:Operand->Value} {x y:Operand} {ao:Option Addr} {l:List Mq} {c i:Nat} {w:World} (ho:o.op=.slice 32 x none (some y) none) (hx:ev x=.slice ao l.length c) (hy:ev y=.int .i64 (i:Int)) (hi:i<=l.length) (hn:l.length<=c) (hr:LRow w 29 ao (nlc l)):∃ u w',(execOp ev o).run Tryz.prog w=.ok (.value u) w'/\RB w w'/\SlM (l.take i) u w':=by
 have h1:(i:Int)<=(c:Int):=by omega
 have h2:(0:Int)<=(i:Int):=by omega
 have h3:(i:Int).toNat=i:=by omega
 have hl:(l.take i).length=i:=by simp;omega
 refine⟨.slice ao (l.take i).length c,w,?_,RB.refl _,ao,c,rfl,by omega,by rw[nlc_take];exact LRow.take hr _⟩;rw[hl];unfold execOp;cases ao<;>simp[ho,hx,hy,go_sem,h1,h2,h3]
theorem fromM_ok {o:Oper} {ev:Operand->Value} {x y:Operand} {ao:Option Addr} {l:List Mq} {c i:Nat} {w:World} (ho:o.op=.slice 32 x (some y) none none) (hx:ev x=.slice ao l.length c) (hy:ev y=.int .i64 (i:Int)) (hi:i<=l.length) (hn:l.length<=c) (hr:LRow w 29 ao (nlc l)):∃ u w',(execOp ev o).run Tryz.prog w=.ok (.value u) w'/\RB w w'/\SlM (l.drop i) u w':=by
 have h1:(i:Int)<=(c:Int):=by omega
 have h2:(0:Int)<=(i:Int):=by omega
 have h3:(i:Int).toNat=i:=by omega
 have hl:(l.drop i).length=l.length-i:=by simp
 cases ao with
 | none=>
  refine⟨.slice none (l.drop i).length (c-i),w,?_,RB.refl _,none,c-i,rfl,by omega,fun hc=>?_⟩
  ·rw[hl]
   unfold execOp;simp[ho,hx,hy,go_sem,h1,h2,h3,hi]
  ·obtain⟨b,o',e,_⟩:=hr (fun q=>hc (by rw[nlc_drop,q];simp))
   cases e
 | some a=>
  refine⟨.slice (if c=i then some a else some (a.add (i*9))) (l.drop i).length (c-i),w,?_,RB.refl _,_,c-i,rfl,by omega,fun hc=>?_⟩
  ·rw[hl]
   unfold execOp;simp[ho,hx,hy,go_sem,h1,h2,h3,hi]
  ·have hlt:i<l.length:=by
    rcases Nat.lt_or_ge i l.length with q|q
    ·exact q
    ·exfalso
     apply hc;rw[List.drop_eq_nil_of_le q];rfl
   obtain⟨b,o',e,_⟩:=hr (fun q=>hc (by rw[nlc_drop,q];simp));cases e;rw[if_neg (by omega),Addr.add_mid,nlc_drop];exact LRow.drop hr (i*9) (by rw[<-nlc_drop];exact hc)
def NtH (H base:Nat) (l:List Mq) (v:Value) (w:World):Prop:=∃ a c,v=.slice a l.length c/\GOwn w H 29 9 a l.length c (lf (nlc l))/\∀ z∈l,OwE w base z.eo z.ec z.m.ents
theorem NtH.rb {H base:Nat} {l:List Mq} (v:Value) (w w':World) (h:NtH H base l v w) (hb:RB w w'):NtH H base l v w':=by
 obtain⟨a,c,e,h,k⟩:=h;exact⟨a,c,e,GOwn.next h hb,fun z hz=>(k z hz).next hb⟩
theorem nlc_one (l:List Mq) (j:Nat) (h:j<l.length*9):(lf (nlc l) j).oneCell'=true:=by
 obtain⟨k,i,hk,hi,e⟩:∃ k i,k<l.length/\i<9/\j=k*9+i:=⟨j / 9,j%9,by omega,by omega,by omega⟩
 have h1:l[k]?=some l[k]:=by simp[hk]
 have h2:=nlc_at h1 hi;have h3:=msL_one l[k] i hi;subst e;unfold lf at h3 ⊢;rw[List.getD_eq_getElem?_getD]at h3 ⊢;rw[h2];exact h3
theorem catM_ok {o:Oper} {ev:Operand->Value} {x y:Operand} {H base:Nat} {l:List Mq} {w:World} (ho:o.op=.call { callee:=.builtin .append,args:=#[x,y],argTypes:=#[32,32] }) (hx:LE H 29 (ev x) w) (hy:SlM l (ev y) w) (hz:∀ z∈l,OwE w base z.eo z.ec z.m.ents) (hl:l.length<=1048576) (hb:H<=w.heap.size):
  ∃ u w',(execOp ev o).run Tryz.prog w=.ok (.value u) w'/\RB w w'/\NtH H base l u w':=by
 obtain⟨g,e1,_,_,h0⟩:=hx;obtain⟨ao,c,e2,_,hr⟩:=hy
 obtain⟨ao',cap',w',hrun,hown,hrb⟩:=run_cat0 Tryz.elM w o.type H g (fun j=>if j<l.length*9 then lf (nlc l) j else .bool false) (h0 9 _) ao l.length c (fun hm=>by
  obtain⟨b,o',e',hc⟩:=hr.g (nlc_len l) hm
  exact⟨b,o',e',fun j hj=>by
   rw[hc j hj]
   simp only[if_pos hj]⟩) (fun j=>by
  by_cases q:j<l.length*9
  ·simp only[if_pos q];exact nlc_one l j q
  ·simp only[if_neg q];rfl) hl hb
 exact⟨_,w',exec_append ho e1 e2 hrun,hrb,ao',cap',rfl,GOwn.congr hown (fun j hj=>if_pos hj),fun z h=>(hz z h).next hrb⟩
theorem appM_ok {o:Oper} {ev:Operand->Value} {x y:Operand} {H base:Nat} {l k:List Mq} {w:World} (ho:o.op=.call { callee:=.builtin .append,args:=#[x,y],argTypes:=#[32,32] }) (hx:NtH H base l (ev x) w) (hy:SlM k (ev y) w) (hz:∀ z∈k,OwE w base z.eo z.ec z.m.ents) (hl:l.length+k.length<=1048576) (hb:H<=w.heap.size):
  ∃ u w',(execOp ev o).run Tryz.prog w=.ok (.value u) w'/\NtH H base (l++k) u w'/\∃ row,w.grownBy w' row/\∀ x,row=some x->H<=x:=by
 obtain⟨a,c,e1,hO,hE⟩:=hx;obtain⟨ao,c2,e2,_,hr⟩:=hy
 obtain⟨ao',cap',w',hrun,hown,hg,_⟩:=run_app Tryz.elM w o.type H _ a l.length c hO ao k.length c2 (fun j=>if j<k.length*9 then lf (nlc k) j else .bool false) (fun hm=>by
  obtain⟨b,o',e',hc⟩:=hr.g (nlc_len k) hm
  exact⟨b,o',e',fun j hj=>by
   rw[hc j hj]
   simp only[if_pos hj]⟩) (fun j=>by
  by_cases q:j<k.length*9
  ·simp only[if_pos q];exact nlc_one k j q
  ·simp only[if_neg q];rfl) (by omega) hb
 have hT:∀ x,(Value.slice a l.length c).ownBlock=some x->Typed w x 29:=fun x e=>GOwn.typed hO e
 refine⟨_,w',exec_append ho e1 e2 hrun,⟨ao',cap',by rw[List.length_append],?_,fun z hz2=>?_⟩,_,hg,fun x e=>(GOwn.at hO e).1⟩
 ·rw[List.length_append]
  refine GOwn.congr hown (fun j hj=>?_);rw[nlc_app,lf_app,nlc_len]
  by_cases q:j<l.length*9
  ·rw[if_pos q,if_pos q]
  ·rw[if_neg q,if_neg q,if_pos (by omega)]
 ·rcases List.mem_append.1 hz2 with r|r
  ·exact (hE z r).gr hg hT (by decide)
  ·exact (hz z r).gr hg hT (by decide)
theorem appM_mid {o:Oper} {ev:Operand->Value} {x y:Operand} {base:Nat} {l k:List Mq} {w W0:World} (ho:o.op=.call { callee:=.builtin .append,args:=#[x,y],argTypes:=#[32,32] }) (hx:NtH W0.heap.size base l (ev x) w) (hy:SlM k (ev y) w) (hz:∀ z∈k,OwE w base z.eo z.ec z.m.ents) (hl:l.length+k.length<=1048576) (hR:RB W0 w):∃ u w',(execOp ev o).run Tryz.prog w=.ok (.value u) w'/\True/\RB W0 w'/\NtH W0.heap.size base (l++k) u w':=by
 obtain⟨u,w8,hr,hu,row,hg,hx⟩:=appM_ok ho hx hy hz hl hR.size;exact⟨u,w8,hr,trivial,rb_row hR hg hx,hu⟩
theorem ClP.less {l:List Nq} {q:List Mq} (h:ClP l q) (i:Nat):ClP l (q.take i++q.drop (i+1)):=⟨h.len,h.ok,by have:=h.net;simp;omega,fun z hz=>by
 rcases List.mem_append.1 hz with r|r
 ·exact h.ms z (List.mem_of_mem_take r)
 ·exact h.ms z (List.mem_of_mem_drop r)⟩
end
end Go.Proofs.YtbabakgjkloabaaGreatDoor
