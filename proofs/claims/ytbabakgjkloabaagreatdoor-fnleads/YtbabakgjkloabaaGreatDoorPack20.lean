/-
  Helpers: Sr3.
-/
import Derived.Test.YtbabakgjkloabaaGreatDoorPack2
import Derived.Test.YtbabakgjkloabaaGreatDoorPack8
import Derived.Test.YtbabakgjkloabaaGreatDoorPack1
import Derived.Test.YtbabakgjkloabaaGreatDoorPack17
import Derived.Test.YtbabakgjkloabaaGreatDoorPack18
import Derived.Test.YtbabakgjkloabaaGreatDoorPack12
import Derived.Test.YtbabakgjkloabaaGreatDoorPack19
import Derived.Test.YtbabakgjkloabaaGreatDoorPack16
import Derived.Deep.DeepCutAuto
set_option linter.unusedVariables false
set_option linter.unusedSimpArgs false
namespace Go.Proofs.YtbabakgjkloabaaGreatDoor
section
open Go Go.RowKit
attribute [local go_sem ↓] Go.wp_at_zero Go.wp_at_succ
set_option maxRecDepth 100000 in
set_option maxHeartbeats 16000000 in
theorem specRecv3_any (n:Nd) (s:NdS) (hz:NdZ n s) (m:Ms) (eo:Option Addr) (ec:Nat) (hmz:MsZ m) (hB:nodeB n=true) (hix:-9223372036854775808<=m.index/\m.index<=9223372036854775807) (base:Nat) (w:World) (hbs:base<=w.heap.size) (hO:NdO w base n s) (hE:MsM w m eo ec) (hk:m.kind=3) (hF:forB n m=true):Calls Tryz.prog 37 #[ndV n s,msV m eo ec] w fun e w'=>ReA base (rkN (rc1 n m) m) (rkL (rc1 n m) m) w w' e:=by
 have hpe:=nodeB_peers hB;replace hk:Hid (m.kind=3):=hk;have hb:=RB.trans _ _ _ (RB.trans _ _ _ (RB.alloc w (.cells (ndL n s).toArray 27)) (RB.alloc _ (.cells (msL m eo ec).toArray 29))) (RB.alloc _ (.cells (ndL nd0 ns0).toArray 27));have vA:NdB _ w.heap.size n s:=((ndB_new w n s).next (RB.alloc _ (.cells (msL m eo ec).toArray 29))).next (RB.alloc _ (.cells (ndL nd0 ns0).toArray 27));have vM:MsB _ (w.alloc (.cells (ndL n s).toArray 27)).heap.size m eo ec:=(msB_new (w.alloc (.cells (ndL n s).toArray 27)) m eo ec).next (RB.alloc _ (.cells (ndL nd0 ns0).toArray 27));have vR:=ndB_new ((w.alloc (.cells (ndL n s).toArray 27)).alloc (.cells (msL m eo ec).toArray 29)) nd0 ns0;rw[World.size_alloc]at vM;rw[World.size_alloc,World.size_alloc]at vR;have HE:Hid (∀ W,Ch base w W->LRow w 47 eo (elc m.ents)->True):=fun _ _ _=>trivial
 replace hO:=hO.next hb;have hEn:=hE.e.next hb;have hEc:=hE.c;clear HE hE;go_enter Tryz.func37,Tryz.ntmps37;refine wp_seq_h' fun K0 hK0=>?_
 go_wp2;refine hK0.out _ _ ?_;clear hK0;generalize (((w.alloc _).alloc _).alloc _)=W at hb vA vM vR hO hEn ⊢;have hal:=RB.alloc W (.cells #[] 29);have hN0:GOwn (W.alloc (.cells #[] 29)) w.heap.size 29 9 (some ⟨W.heap.size,0,none⟩) 0 0 (lf (nlc [])):=GOwn.from (GOwn.empty W 29 9 _) hb.size
 replace hb:=RB.trans _ _ _ hb hal;replace vA:=VHas.next vA hal;replace vM:=VHas.next vM hal;replace vR:=VHas.next vR hal;replace hO:=hO.next hal;replace hEn:=hEn.next hal;clear hal;obtain⟨f0,f1,f2,f3,f4,f5,f6,f7,f8,f9⟩:=cN vA;obtain⟨g0,g1,g2,g3,g4,g5,g6,g7,g8⟩:=cM vM
 go_wp2_with fail
 generalize W.heap.size=e0 at hN0 ⊢;generalize (W.alloc _)=W1 at hN0 hb vA vM vR hO hEn f0 f1 f2 f3 f4 f5 f6 f7 f8 f9 g0 g1 g2 g3 g4 g5 g6 g7 g8 ⊢;refine (specTold_any n s m eo ec ⟨hpe.1,hpe.2.1⟩ hmz.l hmz.x _ hEn).mono ?_;rintro e w1 ⟨rfl,hb1⟩;replace hb:=RB.trans _ _ _ hb hb1;replace vA:NdB w1 w.heap.size n s:=VHas.next vA hb1;replace vM:MsB w1 (w.heap.size+1) m eo ec:=VHas.next vM hb1;replace vR:NdB w1 (w.heap.size+1+1) nd0 ns0:=VHas.next vR hb1;replace hN0:=GOwn.next hN0 hb1;replace hO:=hO.next hb1;replace hEn:=hEn.next hb1;clear hb1 f0 f1 f2 f3 f4 f5 f6 f7 f8 f9 g0 g1 g2 g3 g4 g5 g6 g7 g8;have hC:Ch base w w1:=Ch.of_rb hb;have hwsz:w.heap.size+1+1<w1.heap.size:=vR.lt;clear hb;rw[hF];have hff:=hF;simp only[forB,Bool.and_eq_true]at hff
 have hfr:0<=m.frm/\m.frm<n.peers:=by
  have:=hff.2.2.1;simpa[srvB] using this
 have hmt:1<=m.term/\m.term<=100000:=⟨of_decide_eq_true hff.2.2.2.2.2.1,of_decide_eq_true hff.2.2.2.2.2.2.1⟩
 clear hff hF;obtain⟨f0,f1,f2,f3,f4,f5,f6,f7,f8,f9⟩:=cN vA;obtain⟨g0,g1,g2,g3,g4,g5,g6,g7,g8⟩:=cM vM
 go_upto_if 30 with fail
 go_cut [] from 19 to 32 (fun wc=>∃ N s2,NdB wc w.heap.size N s2/\MsB wc (w.heap.size+1) m eo ec/\NdB wc (w.heap.size+1+1) nd0 ns0/\NdO wc base N s2/\GOwn wc w.heap.size 29 9 (some ⟨e0,0,none⟩) 0 0 (lf (nlc []))/\Ch base w wc/\LRow wc 47 eo (elc m.ents)/\rc1 n m=N/\NkR N/\NdZ N s2/\N.peers=n.peers)
 case first=>
  by_cases hup:n.term<m.term
  ·have hrc:rc1 n m=(upN n m.term):=if_pos hup
   go_wp2_with (first|((with_reducible refine wN 2 (.tmp 33) (.tmp 32) (w.heap.size) 2 (.int .i64 m.term) ((⟨n.id,n.peers,m.term,n.vote,n.log,n.role,n.commit,n.votes,n.next,n.mat⟩:Nd)) (s) vA ?_);intro Wa va ga)|((with_reducible refine wpList_nd rfl 2 (.tmp 34) (.const (.int .i64 (-1))) rfl rfl (w.heap.size) 3 (.int .i64 (-1)) (by simp[go_sem]) (by simp[go_sem]) ((⟨n.id,n.peers,m.term,-1,n.log,n.role,n.commit,n.votes,n.next,n.mat⟩:Nd)) (s) va (by omega) (by kernel_rfl) (by kernel_rfl) (oneV (by kernel_rfl)) (by kernel_rfl) ?_);intro Wb vb gb)|fail)
   clear f0 f1 f2 f3 f4 f5 f6 f7 f8 f9 g0 g1 g2 g3 g4 g5 g6 g7 g8;have hOb:=(hO.gr ga (ndT vA) (by decide) (by decide)).gr gb (ndT va) (by decide) (by decide);have vMb:MsB Wb (w.heap.size+1) m eo ec:=VHas.grown (VHas.grown vM ga (fun e=>by have:=Option.some.inj e;omega)) gb (fun e=>by have:=Option.some.inj e;omega);have vRb:NdB Wb (w.heap.size+1+1) nd0 ns0:=VHas.grown (VHas.grown vR ga (fun e=>by have:=Option.some.inj e;omega)) gb (fun e=>by have:=Option.some.inj e;omega);have hNb:=GOwn.gr (GOwn.gr hN0 ga (ndT vA) (by decide)) gb (ndT va) (by decide);have hEb:=(hEn.gr ga (ndT vA) (by decide)).gr gb (ndT va) (by decide);have hCb:=(hC.box ga nl).box gb nl;have hO2:NdO Wb base (⟨n.id,n.peers,m.term,-1,n.log,n.role,n.commit,n.votes,n.next,n.mat⟩:Nd) s:=⟨hOb.l,hOb.v,hOb.x,hOb.m,hOb.vx,hOb.vm,hOb.xm⟩
   clear hO vM vR hN0 hEn hC ga vA va hOb;refine (specFollow_any (⟨n.id,n.peers,m.term,-1,n.log,n.role,n.commit,n.votes,n.next,n.mat⟩:Nd) s w.heap.size base _ (Nat.le_trans hbs hCb.size) vb hO2).mono ?_;rintro e w2 ⟨rfl,s2,vA,hO,gA⟩;have eU:folN (⟨n.id,n.peers,m.term,-1,n.log,n.role,n.commit,n.votes,n.next,n.mat⟩:Nd)=(upN n m.term):=rfl;rw[eU]at vA hO;have vM:MsB w2 (w.heap.size+1) m eo ec:=VHas.grown vMb gA (fun e=>by have:=Option.some.inj e;omega);have vR:NdB w2 (w.heap.size+1+1) nd0 ns0:=VHas.grown vRb gA (fun e=>by have:=Option.some.inj e;omega);have hN0:=GOwn.gr hNb gA (ndT vb) (by decide);have hEn:=hEb.gr gA (ndT vb) (by decide);have hC:=hCb.box gA nl;have hzU:=nkR_zO (nkR_up hB hmt) hO hz.l hz.tx (by simp[upN]) (by simp[upN]) (by simp[upN]);clear vMb vRb hNb hEb hCb hO2 vb gb gA hup eU;go_wp2
   go_meet
   case rel=>exact⟨(upN n m.term),s2,vA,vM,vR,hO,hN0,hC,hEn,hrc,nkR_up hB hmt,hzU,rfl⟩
  ·go_wp2
   go_meet
   case rel=>exact⟨n,s,vA,vM,vR,hO,hN0,hC,hEn,if_neg (by omega),nkR_of hB,hz,rfl⟩
 case rest=>
  clear vA vM vR hO hN0 hC hEn hwsz f0 f1 f2 f3 f4 f5 f6 f7 f8 f9 g0 g1 g2 g3 g4 g5 g6 g7 g8;obtain⟨N,s2,vA,vM,vR,hO,hN0,hC,hEn,hrc,hBN,hzN,hNp⟩:=hcut;have hwsz:w.heap.size+1+1<wc.heap.size:=vR.lt;replace hrc:Hid (rc1 n m=N):=hrc;replace hBN:Hid (NkR N):=hBN;replace hNp:Hid (N.peers=n.peers):=hNp;obtain⟨lo,lc,vo,vc,no,nc,mo,mc⟩:=s2;obtain⟨f0,f1,f2,f3,f4,f5,f6,f7,f8,f9⟩:=cN vA;obtain⟨g0,g1,g2,g3,g4,g5,g6,g7,g8⟩:=cM vM;have hal:=RB.alloc wc (.cells (msL ms0 none 0).toArray 29);have h0:RS w base wc.heap.size e0 N ⟨lo,lc,vo,vc,no,nc,mo,mc⟩ m eo ec ms0 (wc.alloc (.cells (msL ms0 none 0).toArray 29)):=⟨VHas.next vA hal,VHas.next vM hal,VHas.next vR hal,msB_new wc ms0 none 0,hO.next hal,GOwn.next hN0 hal,hC.trans (Ch.of_rb hal),vR.lt,(GOwn.at hN0 rfl).2⟩
  replace hEn:=hEn.next hal;clear hal vA vM vR hN0 hC hO
  go_upto_if 48 with (first|((with_reducible refine wB 29 (.tmp 8) (.tmp 45) wc.heap.size (msL (⟨0,N.term,N.id,m.frm,0,0,[],0,false⟩:Ms) none 0) h0.q ?_);intro W2 vQ2 gQ;have h1:RS w base wc.heap.size e0 N ⟨lo,lc,vo,vc,no,nc,mo,mc⟩ m eo ec (⟨0,N.term,N.id,m.frm,0,0,[],0,false⟩:Ms) W2:=h0.putQ vQ2 gQ;have hEn1:=hEn.gr gQ (fun x e=>by cases e;exact h0.q.typed) (by decide);clear f0 f1 f2 f3 f4 f5 f6 f7 f8 f9 g0 g1 g2 g3 g4 g5 g6 g7 g8 gQ vQ2;obtain⟨f0,f1,f2,f3,f4,f5,f6,f7,f8,f9⟩:=cN h1.a;obtain⟨g0,g1,g2,g3,g4,g5,g6,g7,g8⟩:=cM h1.m)|fail)
  generalize wc.heap.size=qb at h1 hwsz ⊢;clear h0 hEn
  have k1:(m.kind==1)=false:=by rw[hk.out];rfl
  have k2:(m.kind==2)=false:=by rw[hk.out];rfl
  have k3:(m.kind==3)=true:=by rw[hk.out];rfl
  go_upto_region 37 with (first|((with_reducible refine wM 2 (.tmp 145) (.const (.int .i64 4)) (qb) 0 (.int .i64 4) ((⟨4,N.term,N.id,m.frm,0,0,[],0,false⟩:Ms)) h1.q ?_);intro W3 vQ3 gQ;have h2:=h1.putQ vQ3 gQ;have hEn2:=hEn1.gr gQ (fun x e=>by cases e;exact h1.q.typed) (by decide);clear f0 f1 f2 f3 f4 f5 f6 f7 f8 f9 g0 g1 g2 g3 g4 g5 g6 g7 g8 gQ vQ3;obtain⟨f0,f1,f2,f3,f4,f5,f6,f7,f8,f9⟩:=cN h2.a;obtain⟨g0,g1,g2,g3,g4,g5,g6,g7,g8⟩:=cM h2.m)|fail)
  clear h1 hEn1 k1 k2 k3
  by_cases b1:m.term<N.term
  ·have HN:Hid (rkN (rc1 n m) m=N):=by show _ = _;rw[hrc.out];simp[rkN,hk.out,apnN,b1]
   have HL:Hid (rkL (rc1 n m) m=[(⟨4,N.term,N.id,m.frm,0,0,[],0,false⟩:Ms)]):=by show _ = _;rw[hrc.out];simp[rkL,hk.out,apnL,appdM,b1]
   go_wp2_with fail
   clear f0 f1 f2 f3 f4 f5 f6 f7 f8 f9 g0 g1 g2 g3 g4 g5 g6 g7 g8;have hd:RB W3 W3.drew:=(Below.refl _ _).drew;have hD:=RS.next h2 hd;clear hd
   refine region_put (by kernel_rfl) (by kernel_rfl) 3 [0] [1,2,4] (by kernel_rfl) (by kernel_rfl)
    (fun u v=>u.grownBy v (some (w.heap.size+1+1))/\Typed u (w.heap.size+1+1) 27)
    (fun W5=>NdB W5 (w.heap.size+1+1) N ⟨lo,lc,vo,vc,no,nc,mo,mc⟩/\NdO W5 base N ⟨lo,lc,vo,vc,no,nc,mo,mc⟩/\Ch base w W5/\MsB W5 qb (⟨4,N.term,N.id,m.frm,0,0,[],0,false⟩:Ms) none 0)
    (fun a b h hR=>⟨VHas.next h.1 hR,h.2.1.next hR,h.2.2.1.trans (Ch.of_rb hR),VHas.next h.2.2.2 hR⟩)
    [isV (ndV N ⟨lo,lc,vo,vc,no,nc,mo,mc⟩),isV (msV (⟨4,N.term,N.id,m.frm,0,0,[],0,false⟩:Ms) none 0),NetV w.heap.size [(⟨4,N.term,N.id,m.frm,0,0,[],0,false⟩:Ms)],fun _ _=>True,NetV w.heap.size [(⟨4,N.term,N.id,m.frm,0,0,[],0,false⟩:Ms)]]
    ⟨isV.rb,isV.rb,NetV.rb,fun _ _ _ h _=>h,NetV.rb,trivial⟩ ?_ ?_ (lates ?_) _ rfl rfl ?_ ?_
   ·intro i hi v a b h hx
    simp only[List.mem_cons,List.not_mem_nil,or_false]at hi;rcases hi with rfl|rfl|rfl
    ·exact h
    ·exact NetV.gr h hx.1 hx.2
    ·exact NetV.gr h hx.1 hx.2
   ·intro i hi o ho
    simp only[List.mem_cons,List.not_mem_nil,or_false]at hi;subst hi;obtain rfl:=Option.some.inj ho
    exact oq rfl fun ev w9 v hR E pr=>by
     have e1:=E.was 2 _;exact exec_nd rfl e1 (VHas.next hD.a hR)
   ·refine late_skip rfl (late_cons ?_ (late_cons ?_ (late_skip rfl (late_cons ?_ trivial))))
    ·exact LateOk.get _ (fun _=>rfl) fun ev w9 v hR E pr=>by
      have e1:=E.was 8 _
      have vv:MsB w9 qb (⟨4,N.term,N.id,m.frm,0,0,[],0,false⟩:Ms) none 0:=by
       rcases hR with hR|hR
       ·exact VHas.next hD.q hR
       ·exact hR.2.2.2
      exact exec_ms rfl e1 vv
    ·intro ev w9 v hR E pr
     have e1:ev (.tmp 153)=msV (⟨4,N.term,N.id,m.frm,0,0,[],0,false⟩:Ms) none 0:=E.kept pr 1 153
     have hs9:w.heap.size<=w9.heap.size:=by
      rcases hR with hR|hR
      ·exact Nat.le_trans hD.c.size hR.size
      ·exact hR.2.2.1.size
     exact⟨.slice (some ⟨w9.heap.size,0,none⟩) 1 1,w9.alloc (.cells (msL (⟨4,N.term,N.id,m.frm,0,0,[],0,false⟩:Ms) none 0).toArray 29),(by (simp[go_sem,e1])<;>rfl),RB.alloc _ _,NetV.from (netV_one w9 (⟨4,N.term,N.id,m.frm,0,0,[],0,false⟩:Ms) rfl) hs9⟩
    ·intro ev w9 v hR E pr
     exact⟨ev (.tmp 154),w9,by simp[go_sem],RB.refl _,E.kept pr 2 154⟩
   ·intro ev w5 v hR E hp
    have E1:ev (.tmp 152)=ndV N ⟨lo,lc,vo,vc,no,nc,mo,mc⟩:=E.get hp 0 152;have E2:ev (.tmp 4)=.pointer (some ⟨w.heap.size+1+1,0,none⟩):=E.was 4 _;have hD5:=RS.next hD hR;have hg:w5.grownBy (setL w5 (w.heap.size+1+1) 0 (ndL N ⟨lo,lc,vo,vc,no,nc,mo,mc⟩)) (some (w.heap.size+1+1)):=gr_setL _ _ 0 _;exact⟨_,exec_box (ndL N ⟨lo,lc,vo,vc,no,nc,mo,mc⟩) rfl E2 E1 hD5.r (by kernel_rfl) (oneAll (by kernel_rfl)),⟨hg,hD5.r.typed⟩,vhas_box _ hD5.r,hD5.o.gr hg (ndT hD5.r) (by decide) (by decide),hD5.c.box hg (by omega),VHas.gr hD5.q hg (ndT hD5.r) (by decide)⟩
   ·intro v8 w8 hP8 hk8
    have k8:NetV w.heap.size [(⟨4,N.term,N.id,m.frm,0,0,[],0,false⟩:Ms)] (v8 4) w8:=hk8 4 (by decide) (Nat.le_of_ble_eq_true (by kernel_rfl)) (by decide);simp only[putL,Nat.zero_add,Nat.reduceAdd,Act.put,List.setIfInBounds_toArray,List.set_cons_zero,List.set_cons_succ];obtain⟨hv9,hO9,hC9,_⟩:=hP8;obtain⟨q0,q1,q2,q3,q4,q5,q6,q7,q8,q9⟩:=cN hv9;go_wp2;exact bodyPost_ret (v:=.tuple #[ndV N ⟨lo,lc,vo,vc,no,nc,mo,mc⟩,v8 4]) (by simp[results,Tryz.results37,go_sem,q0,q1,q2,q3,q4,q5,q6,q7,q8,q9]) rfl (by rw[HN.out,HL.out];exact⟨⟨lo,lc,vo,vc,no,nc,mo,mc⟩,v8 4,rfl,hO9,k8,hC9⟩)
  by_cases r3:N.role=3
  ·have HN:Hid (rkN (rc1 n m) m=N):=by show _ = _;rw[hrc.out];simp[rkN,hk.out,apnN,r3]
   have HL:Hid (rkL (rc1 n m) m=[]):=by show _ = _;rw[hrc.out];simp[rkL,hk.out,apnL,b1,r3]
   have r3':(N.role==3)=true:=by simp[r3]
   clear r3
   go_wp2_with (first|((with_reducible refine wB 27 (.tmp 4) (.tmp 159) (w.heap.size+1+1) (ndL (N) (⟨lo,lc,vo,vc,no,nc,mo,mc⟩)) h2.r ?_);intro W9 hv9 hg9)|fail)
   obtain⟨q0,q1,q2,q3,q4,q5,q6,q7,q8,q9⟩:=cN hv9;exact bodyPost_ret (v:=.tuple #[ndV N ⟨lo,lc,vo,vc,no,nc,mo,mc⟩,.slice (some ⟨e0,0,none⟩) 0 0]) (by simp[results,Tryz.results37,go_sem,q0,q1,q2,q3,q4,q5,q6,q7,q8,q9]) rfl (by rw[HN.out,HL.out];exact⟨⟨lo,lc,vo,vc,no,nc,mo,mc⟩,_,rfl,h2.o.gr hg9 (ndT h2.r) (by decide) (by decide),netV_z (GOwn.gr h2.z hg9 (ndT h2.r) (by decide)),h2.c.box hg9 (by omega)⟩)
  have HA:Hid (rkN (rc1 n m) m=if mgF (folN N) m=true then apnG N m else folN N):=by show _ = _;rw[hrc.out];simp[rkN,hk.out,apnN,b1,r3]
  have HB:Hid (rkL (rc1 n m) m=if mgF (folN N) m=true then [appdM N m (apnR m) true] else [appdM N m (min (N.log.length:Int) (max m.index 1-1)) false]):=by show _ = _;rw[hrc.out];simp[rkL,hk.out,apnL,b1,r3]
  go_wp2_with fail
  clear f0 f1 f2 f3 f4 f5 f6 f7 f8 f9 g0 g1 g2 g3 g4 g5 g6 g7 g8;refine (specFollow_any N ⟨lo,lc,vo,vc,no,nc,mo,mc⟩ w.heap.size base _ (Nat.le_trans hbs h2.c.size) h2.a h2.o).mono ?_;rintro e w4 ⟨rfl,s4,v4,o4,g4⟩;have hEn4:=hEn2.gr g4 (ndT h2.a) (by decide);have h4:=h2.putA v4 o4 g4;obtain⟨lo4,lc4,vo4,vc4,no4,nc4,mo4,mc4⟩:=s4;clear v4 o4 g4 b1 r3;obtain⟨f0,f1,f2,f3,f4,f5,f6,f7,f8,f9⟩:=cN h4.a;obtain⟨g0,g1,g2,g3,g4,g5,g6,g7,g8⟩:=cM h4.m
  go_wp2_with fail
  refine (l10Fits_any lo4 N.log.length lc4 (tOf N.log) (xOf N.log) m.index m.lterm (by have:=hzN.l;omega) _ h4.o.M.l.n).mono ?_;rintro e w5 ⟨rfl,hw5⟩;replace hw5:=hw5.symm;subst hw5
  go_upto_if 168 with fail
  go_cut [48,49,84,85,143,144] from 145 to 169 (fun _ _ _ _ _ _ wz=>RS w base qb e0 (folN N) ⟨lo4,lc4,vo4,vc4,no4,nc4,mo4,mc4⟩ m eo ec (⟨4,N.term,N.id,m.frm,0,0,[],0,false⟩:Ms) wz/\mgF (folN N) m=false)
  case rest=>
   clear h2 hEn2 hEn4 f0 f1 f2 f3 f4 f5 f6 f7 f8 f9 g0 g1 g2 g3 g4 g5 g6 g7 g8 h4;obtain⟨h4,hF4⟩:=hcut;obtain⟨f0,f1,f2,f3,f4,f5,f6,f7,f8,f9⟩:=cN h4.a;obtain⟨g0,g1,g2,g3,g4,g5,g6,g7,g8⟩:=cM h4.m
   go_wp2_with fail
   clear f0 f1 f2 f3 f4 f5 f6 f7 f8 f9 g0 g1 g2 g3 g4 g5 g6 g7 g8;have HN:Hid (rkN (rc1 n m) m=(folN N)):=by show _ = _;rw[HA.out,hF4];rfl
   have HL:Hid (rkL (rc1 n m) m=[(⟨4,N.term,N.id,m.frm,max 0 (min (N.log.length:Int) (max 0 m.index-1)),0,[],0,false⟩:Ms)]):=by
    show _ = _
    rw[HB.out,hF4];have e:min (N.log.length:Int) (max m.index 1-1)=max 0 (min (N.log.length:Int) (max 0 m.index-1)):=by omega
    rw[<-e];rfl
   clear HA HB hF4;have hw231:IntKind.i64.wrap (max 0 m.index-1)=max 0 m.index-1:=by rw[IntKind.wrap_i64];omega
   refine (l1Max_rb 0 m.index _).mono ?_;rintro e w6 ⟨rfl,hb6⟩;have h6:=RS.next h4 hb6
   go_wp2_with fail
   refine (l1Min_rb (N.log.length:Int) (max 0 m.index-1) _).mono ?_;rintro e w7 ⟨rfl,hb7⟩;have h7:=RS.next h6 hb7
   go_wp2_with fail
   refine (l1Max_rb 0 (min (N.log.length:Int) (max 0 m.index-1)) _).mono ?_;rintro e w8 ⟨rfl,hb8⟩;have h8:=RS.next h7 hb8;clear hb8 hb7 hb6 h7 h6
   go_wp2_with (first|((with_reducible refine wM 2 (.tmp 234) (.tmp 233) (qb) 4 (.int .i64 (max 0 (min (N.log.length:Int) (max 0 m.index-1)))) ((⟨4,N.term,N.id,m.frm,max 0 (min (N.log.length:Int) (max 0 m.index-1)),0,[],0,false⟩:Ms)) h8.q ?_);intro W9 vQ9 gQ;have h9:=h8.putQ vQ9 gQ;clear gQ vQ9)|fail)
   generalize hRE:(⟨4,N.term,N.id,m.frm,max 0 (min (N.log.length:Int) (max 0 m.index-1)),0,[],0,false⟩:Ms)=RE at h9 HL;have HZ:Hid (RE.ents=[]):=by show _ = _;rw[<-hRE]
   clear hRE;generalize (folN N)=M at h9 HN;have hd:RB W9 W9.drew:=(Below.refl _ _).drew;have hD:=RS.next h9 hd;clear hd
   refine region_put (by kernel_rfl) (by kernel_rfl) 3 [0] [1,2,4] (by kernel_rfl) (by kernel_rfl)
    (fun u v=>u.grownBy v (some (w.heap.size+1+1))/\Typed u (w.heap.size+1+1) 27)
    (fun W5=>NdB W5 (w.heap.size+1+1) M ⟨lo4,lc4,vo4,vc4,no4,nc4,mo4,mc4⟩/\NdO W5 base M ⟨lo4,lc4,vo4,vc4,no4,nc4,mo4,mc4⟩/\Ch base w W5/\MsB W5 qb RE none 0)
    (fun a b h hR=>⟨VHas.next h.1 hR,h.2.1.next hR,h.2.2.1.trans (Ch.of_rb hR),VHas.next h.2.2.2 hR⟩)
    [isV (ndV M ⟨lo4,lc4,vo4,vc4,no4,nc4,mo4,mc4⟩),isV (msV RE none 0),NetV w.heap.size [RE],fun _ _=>True,NetV w.heap.size [RE]]
    ⟨isV.rb,isV.rb,NetV.rb,fun _ _ _ h _=>h,NetV.rb,trivial⟩ ?_ ?_ (lates ?_) _ rfl rfl ?_ ?_
   ·intro i hi v a b h hx
    simp only[List.mem_cons,List.not_mem_nil,or_false]at hi;rcases hi with rfl|rfl|rfl
    ·exact h
    ·exact NetV.gr h hx.1 hx.2
    ·exact NetV.gr h hx.1 hx.2
   ·intro i hi o ho
    simp only[List.mem_cons,List.not_mem_nil,or_false]at hi;subst hi;obtain rfl:=Option.some.inj ho
    exact oq rfl fun ev w9 v hR E pr=>by
     have e1:=E.was 2 _;exact exec_nd rfl e1 (VHas.next hD.a hR)
   ·refine late_skip rfl (late_cons ?_ (late_cons ?_ (late_skip rfl (late_cons ?_ trivial))))
    ·exact LateOk.get _ (fun _=>rfl) fun ev w9 v hR E pr=>by
      have e1:=E.was 8 _
      have vv:MsB w9 qb RE none 0:=by
       rcases hR with hR|hR
       ·exact VHas.next hD.q hR
       ·exact hR.2.2.2
      exact exec_ms rfl e1 vv
    ·intro ev w9 v hR E pr
     have e1:ev (.tmp 236)=msV RE none 0:=E.kept pr 1 236
     have hs9:w.heap.size<=w9.heap.size:=by
      rcases hR with hR|hR
      ·exact Nat.le_trans hD.c.size hR.size
      ·exact hR.2.2.1.size
     exact⟨.slice (some ⟨w9.heap.size,0,none⟩) 1 1,w9.alloc (.cells (msL RE none 0).toArray 29),(by (simp[go_sem,e1])<;>rfl),RB.alloc _ _,NetV.from (netV_one w9 RE HZ.out) hs9⟩
    ·intro ev w9 v hR E pr
     exact⟨ev (.tmp 237),w9,by simp[go_sem],RB.refl _,E.kept pr 2 237⟩
   ·intro ev w5 v hR E hp
    have E1:ev (.tmp 235)=ndV M ⟨lo4,lc4,vo4,vc4,no4,nc4,mo4,mc4⟩:=E.get hp 0 235;have E2:ev (.tmp 4)=.pointer (some ⟨w.heap.size+1+1,0,none⟩):=E.was 4 _;have hD5:=RS.next hD hR;have hg:w5.grownBy (setL w5 (w.heap.size+1+1) 0 (ndL M ⟨lo4,lc4,vo4,vc4,no4,nc4,mo4,mc4⟩)) (some (w.heap.size+1+1)):=gr_setL _ _ 0 _;exact⟨_,exec_box (ndL M ⟨lo4,lc4,vo4,vc4,no4,nc4,mo4,mc4⟩) rfl E2 E1 hD5.r (by kernel_rfl) (oneAll (by kernel_rfl)),⟨hg,hD5.r.typed⟩,vhas_box _ hD5.r,hD5.o.gr hg (ndT hD5.r) (by decide) (by decide),hD5.c.box hg (by omega),VHas.gr hD5.q hg (ndT hD5.r) (by decide)⟩
   ·intro v8 w8 hP8 hk8
    have k8:NetV w.heap.size [RE] (v8 4) w8:=hk8 4 (by decide) (Nat.le_of_ble_eq_true (by kernel_rfl)) (by decide);simp only[putL,Nat.zero_add,Nat.reduceAdd,Act.put,List.setIfInBounds_toArray,List.set_cons_zero,List.set_cons_succ];obtain⟨hv9,hO9,hC9,_⟩:=hP8;obtain⟨q0,q1,q2,q3,q4,q5,q6,q7,q8,q9⟩:=cN hv9;go_wp2;exact bodyPost_ret (v:=.tuple #[ndV M ⟨lo4,lc4,vo4,vc4,no4,nc4,mo4,mc4⟩,v8 4]) (by simp[results,Tryz.results37,go_sem,q0,q1,q2,q3,q4,q5,q6,q7,q8,q9]) rfl (by rw[HN.out,HL.out];exact⟨⟨lo4,lc4,vo4,vc4,no4,nc4,mo4,mc4⟩,v8 4,rfl,hO9,k8,hC9⟩)
  case first=>
   rcases Bool.eq_false_or_eq_true (fitB N.log.length (tOf N.log) m.index m.lterm) with b4|b4
   rotate_left
   ·rw[b4]
    go_wp2
    go_meet
    case rel=>exact⟨h4,by simp[mgF,folN,b4]⟩
   rw[b4];have hmF:=mgF_is hBN.out.l hBN.out.c b4;have hcm:0<=N.commit/\N.commit<=N.log.length:=hBN.out.c;have hll:N.log.length<=200:=logL_len hBN.out.l;have hel:m.ents.length<=1048576:=hmz.l
   have hfi:0<=m.index/\m.index<=(N.log.length:Int):=by
    have:=of_decide_eq_true b4;exact⟨this.1,this.2.1⟩
   have HG:Hid (apnG N m=⟨N.id,N.peers,N.term,N.vote,mgL (folN N) m,1,max N.commit (min m.commit (m.index+(m.ents.length:Int))),[],[],[]⟩):=rfl
   go_wp2_with fail
   refine (specMerge_N N lo4 lc4 m eo ec hzN.l h4.o.K.l hzN.tx hmz hEc _ h4.o.M.l hEn4).mono ?_;rintro e w6 ⟨ao,cap,rfl,hcap,hown,hb6⟩;have h6:=RS.next h4 hb6;have hown':Hid (mgO (folN N) m=true->OwE w6 base ao cap (mgL (folN N) m)):=fun q=>(hown q).from (Nat.le_trans hbs h4.c.size)
   clear hb6 f0 f1 f2 f3 f4 f5 f6 f7 f8 f9 g0 g1 g2 g3 g4 g5 g6 g7 g8 h2 h4 hEn2 hEn4 hown b4;obtain⟨f0,f1,f2,f3,f4,f5,f6,f7,f8,f9⟩:=cN h6.a;obtain⟨g0,g1,g2,g3,g4,g5,g6,g7,g8⟩:=cM h6.m;generalize mgL (folN N) m=L at hcap hown' HG hmF ⊢;generalize mgO (folN N) m=mo at hown' hmF ⊢;replace hmF:Hid _:=hmF
   go_wp2_with fail
   clear f0 f1 f2 f3 f4 f5 f6 f7 f8 f9 g0 g1 g2 g3 g4 g5 g6 g7 g8
   go_loopw [15,16] (fun x15 x16 wr=>∃ k:Nat,(k:Int)<=N.commit/\x15=.bool (mo&&agP L N.log k)/\x16=.int .i64 (k:Int)/\RB w6 wr) (fun _ x _=>(N.commit-intOf x).toNat)
   case atStart=>exact⟨0,hcm.1,by rw[agP_zero,Bool.and_true],rfl,RB.refl _⟩
   case round=>
    obtain⟨k,hk,rfl,rfl,hR⟩:=hrel;have h7:=RS.next h6 hR;obtain⟨f0,f1,f2,f3,f4,f5,f6,f7,f8,f9⟩:=cN h7.a;obtain⟨g0,g1,g2,g3,g4,g5,g6,g7,g8⟩:=cM h7.m;rcases Bool.eq_false_or_eq_true (mo&&agP L N.log k) with b5|b5
    rotate_left
    ·rw[b5]
     have hF4:mgF (folN N) m=false:=by
      rw[hmF.out];cases mo
      ·rfl
      ·rw[Bool.true_and]at b5 ⊢
       exact agP_stop (by omega) (by omega) b5
     by_cases hlt:(k:Int)<N.commit
     ·go_wp2
      go_meet
      case rel=>exact⟨h7,hF4⟩
     ·go_wp2
      go_meet
      case rel=>exact⟨h7,hF4⟩
    rw[b5];have hmo:mo=true/\agP L N.log k=true:=by simpa using b5
    obtain⟨rfl,hag⟩:=hmo;have hown7:=(hown'.out rfl).next hR
    by_cases hlt:(k:Int)<N.commit
    ·go_wp2_with fail
     clear f0 f1 f2 f3 f4 f5 f6 f7 f8 f9 g0 g1 g2 g3 g4 g5 g6 g7 g8
     obtain⟨gl,ol,eg,_,hcl⟩:=h7.o.M.l (fun q=>by
      have:=elc_len N.log;have q':elc N.log=[]:=q;rw[q']at this;simp at this
      omega)
     have eg':lo4=some ⟨gl,ol,none⟩:=eg;subst eg';have hkN:k<N.log.length:=by omega
     have HB0:=elc_at (l:=N.log) hkN
     have HA0:∃ ga oa,k<L.length->ao=some ⟨ga,oa,none⟩/\wr.cell? ⟨ga,oa+k*2,none⟩=some (.int .i64 (tOf L k))/\wr.cell? ⟨ga,oa+k*2+1,none⟩=some (.string (xOf L k)):=by
      by_cases q:k<L.length
      ·obtain⟨ga,oa,e1,_,hca⟩:=hown7.row (fun q2=>by
        have:=elc_len L;rw[q2]at this;simp at this
        omega)
       have h8:=elc_at (l:=L) q;exact⟨ga,oa,fun _=>⟨e1,hca _ _ h8.1,by rw[Nat.add_assoc];exact hca _ _ h8.2⟩⟩
      ·exact⟨0,0,fun q2=>absurd q2 q⟩
     obtain⟨ga,oa,HA1⟩:=HA0;have hd:RB wr wr.drew:=(Below.refl _ _).drew;have hD:=RS.next h7 hd;have HB1:Hid (wr.drew.cell? ⟨gl,ol+k*2,none⟩=some (.int .i64 (tOf N.log k))/\wr.drew.cell? ⟨gl,ol+k*2+1,none⟩=some (.string (xOf N.log k))):=⟨keep_cell hd nl (hcl _ _ HB0.1),keep_cell hd nl (by rw[Nat.add_assoc];exact hcl _ _ HB0.2)⟩
     replace HA1:Hid (k<L.length->ao=some ⟨ga,oa,none⟩/\wr.drew.cell? ⟨ga,oa+k*2,none⟩=some (.int .i64 (tOf L k))/\wr.drew.cell? ⟨ga,oa+k*2+1,none⟩=some (.string (xOf L k))):=fun q=>⟨(HA1 q).1,keep_cell hd nl (HA1 q).2.1,keep_cell hd nl (HA1 q).2.2⟩
     have hst:=agP_step (a:=L) hkN;rw[hag,Bool.true_and]at hst;have HST:Hid (agP L N.log (k+1)=(decide (k<L.length)&&decide (tOf L k=tOf N.log k/\xOf L k=xOf N.log k))):=hst;have hk0:(0:Int)<=(k:Int):=by omega
     have hkn:(k:Int)<(N.log.length:Int):=by omega
     have hR8:=RB.trans _ _ _ hR hd;clear hcl HB0 h7 hown7 hag hst hd b5;obtain⟨b191,qb191⟩:∃ b:Bool,b=(decide ((k:Int)<(L.length:Int))):=⟨_,rfl⟩
     obtain⟨c4t,hc4t⟩:∃ c:Bool,c=(true&&((b191)==true)):=⟨_,rfl⟩
     obtain⟨b202,qb202⟩:∃ b:Bool,b=(decide (tOf L k=tOf N.log k/\xOf L k=xOf N.log k)):=⟨_,rfl⟩
     obtain⟨b203,qb203⟩:∃ b:Bool,b=((b191&&b202)):=⟨_,rfl⟩
     refine region_all (by kernel_rfl) (by kernel_rfl) RB RB.refl RB.trans
      [isV (.int .i64 (k:Int)),isV (.slice ao L.length cap),isV (.int .i64 (L.length:Int)),isV (.bool b191),isV (.bool b191),isV (gv c4t (.slice ao L.length cap)),isV (gv c4t (.int .i64 (k:Int))),isV (gv c4t (.pointer (some ⟨ga,oa+k*2,none⟩))),isV (gv c4t (.agg #[.int .i64 (tOf L k),.string (xOf L k)])),isV (gv c4t (.pointer (some ⟨w.heap.size,4,none⟩))),isV (gv c4t (.slice (some ⟨gl,ol,none⟩) N.log.length lc4)),isV (gv c4t (.int .i64 (k:Int))),isV (gv c4t (.pointer (some ⟨gl,ol+k*2,none⟩))),isV (gv c4t (.agg #[.int .i64 (tOf N.log k),.string (xOf N.log k)])),isV (gv c4t (.bool b202)),isV (.bool b203),isV (.bool b203)]
      ⟨isV.rb,isV.rb,isV.rb,isV.rb,isV.rb,isV.rb,isV.rb,isV.rb,isV.rb,isV.rb,isV.rb,isV.rb,isV.rb,isV.rb,isV.rb,isV.rb,isV.rb,trivial⟩ rfl ?_ ?_
     ·refine⟨?_,?_,?_,?_,?_,?_,?_,?_,?_,?_,?_,?_,?_,?_,?_,?_,?_,trivial⟩
      ·exact oq rfl fun ev w' v hR E pr=>by
        have e1:=E.was 16 _;simp[go_sem,e1]
      ·exact oq rfl fun ev w' v hR E pr=>by
        have e1:=E.was 14 _;simp[go_sem,e1]
      ·exact oq rfl fun ev w' v hR E pr=>by
        have e1:=E.eq pr 1 189;simp[go_sem,e1]
      ·exact oq rfl fun ev w' v hR E pr=>by
        have e1:=E.eq pr 0 188;have e2:=E.eq pr 2 190;simp[go_sem,qb191,e1,e2]
      ·exact oq rfl fun ev w' v hR E pr=>by
        have e1:=E.eq pr 3 191;simp[go_sem,e1]
      ·exact OpOk.gd RB.refl 4 192 true true (b191) (fun _ _ h=>h) c4t hc4t _ (fun _=>rfl) fun ev w' v hR E pr hC=>by
        have e1:=E.was 14 _;simp[go_sem,gv,hC,hc4t,e1]
      ·exact OpOk.gd RB.refl 4 192 true true (b191) (fun _ _ h=>h) c4t hc4t _ (fun _=>rfl) fun ev w' v hR E pr hC=>by
        have e1:=E.was 16 _;simp[go_sem,gv,hC,hc4t,e1]
      ·exact OpOk.gd RB.refl 4 192 true true (b191) (fun _ _ h=>h) c4t hc4t _ (fun _=>rfl) fun ev w' v hR E pr hC=>by
        have e1:=E.eq pr 5 193;have e2:=E.eq pr 6 194
        have hkL:k<L.length:=by
         rcases Nat.lt_or_ge k L.length with q|q
         ·exact q
         ·exfalso
          have q':¬ ((k:Int)<(L.length:Int)):=by omega
          simp[hC,qb191,q']at hc4t
        obtain⟨ea,ca,cb⟩:=HA1.out hkL;have hkl:(k:Int)<(L.length:Int):=by omega
        simp[go_sem,gv,hC,hc4t,ea,hk0,hkl,e1,e2]
      ·exact OpOk.gd RB.refl 4 192 true true (b191) (fun _ _ h=>h) c4t hc4t _ (fun _=>rfl) fun ev w' v hR E pr hC=>by
        have e1:=E.eq pr 7 195
        have hkL:k<L.length:=by
         rcases Nat.lt_or_ge k L.length with q|q
         ·exact q
         ·exfalso
          have q':¬ ((k:Int)<(L.length:Int)):=by omega
          simp[hC,qb191,q']at hc4t
        obtain⟨ea,ca,cb⟩:=HA1.out hkL;have hkl:(k:Int)<(L.length:Int):=by omega
        replace ca:=keep_cell hR nl ca;replace cb:=keep_cell hR nl cb;simp[go_sem,gv,hC,hc4t,ca,cb,e1]
      ·exact OpOk.gd RB.refl 4 192 true true (b191) (fun _ _ h=>h) c4t hc4t _ (fun _=>rfl) fun ev w' v hR E pr hC=>by
        have e1:=E.was 2 _;simp[go_sem,gv,hC,hc4t,e1]
      ·exact OpOk.gd RB.refl 4 192 true true (b191) (fun _ _ h=>h) c4t hc4t _ (fun _=>rfl) fun ev w' v hR E pr hC=>by
        have e1:=E.eq pr 9 197;have cc:=(hD.a.next hR).cell (j:=4) (by omega);simp[lf,folN]at cc;simp[go_sem,gv,hC,hc4t,cc,e1]
      ·exact OpOk.gd RB.refl 4 192 true true (b191) (fun _ _ h=>h) c4t hc4t _ (fun _=>rfl) fun ev w' v hR E pr hC=>by
        have e1:=E.was 16 _;simp[go_sem,gv,hC,hc4t,e1]
      ·exact OpOk.gd RB.refl 4 192 true true (b191) (fun _ _ h=>h) c4t hc4t _ (fun _=>rfl) fun ev w' v hR E pr hC=>by
        have e1:=E.eq pr 10 198;have e2:=E.eq pr 11 199;simp[go_sem,gv,hC,hc4t,hk0,hkn,e1,e2]
      ·exact OpOk.gd RB.refl 4 192 true true (b191) (fun _ _ h=>h) c4t hc4t _ (fun _=>rfl) fun ev w' v hR E pr hC=>by
        have e1:=E.eq pr 12 200;have cc:=keep_cell hR nl HB1.out.1;have cd:=keep_cell hR nl HB1.out.2;simp[go_sem,gv,hC,hc4t,cc,cd,e1]
      ·exact OpOk.gd RB.refl 4 192 true true (b191) (fun _ _ h=>h) c4t hc4t _ (fun _=>rfl) fun ev w' v hR E pr hC=>by
        have e1:=E.eq pr 8 196;have e2:=E.eq pr 13 201;rw[hC]at e1;rw[hC]at e2;rw[qb202];exact exec_eqE rfl e1 e2
      ·exact oq rfl fun ev w' v hR E pr=>by
        have e1:=E.eq pr 4 192;have e2:=E.eq pr 14 202;rcases Bool.eq_false_or_eq_true (b191) with hs|hs<;>simp[go_sem,E.con,qb203,gv,hc4t,e1,e2,hs]
      ·exact oq rfl fun ev w' v hR E pr=>by
        have e1:=E.eq pr 15 203;simp[go_sem,e1]
     ·intro v w' hR hp
      obtain⟨_,_,_,_,_,_,_,_,_,_,_,_,_,_,_,p15,p16,_⟩:=hp;replace p15:v 15=.bool b203:=p15;replace p16:v 16=.bool b203:=p16;simp only[putL,Nat.zero_add,Nat.reduceAdd,p15,p16,Act.put,List.setIfInBounds_toArray,List.set_cons_zero,List.set_cons_succ]
      have hb3:b203=agP L N.log (k+1):=by
       rw[HST.out,qb203,qb191,qb202]
       congr 1
       simp
      clear qb203 qb191 qb202 hc4t HA1 HB1 hD;replace hR8:=RB.trans _ _ _ hR8 hR;have hwk:IntKind.i64.wrap ((k:Int)+1)=(k:Int)+1:=by rw[IntKind.wrap_i64];omega
      replace hb3:Hid (b203 = _):=hb3;go_wp2
      go_roundw
      case rel=>exact⟨k+1,by omega,by rw[hb3.out];rfl,by go_num,hR8⟩
      case measure=>simp[intOf];omega
    ·have hkc:N.commit.toNat=k:=by omega
     have hF4:mgF (folN N) m=true:=by rw[hmF.out,hkc,hag];rfl
     have HN:Hid (rkN (rc1 n m) m=(⟨N.id,N.peers,N.term,N.vote,L,1,max N.commit (min m.commit (m.index+(m.ents.length:Int))),[],[],[]⟩:Nd)):=by show _ = _;rw[HA.out,if_pos hF4];exact HG.out
     have HL:Hid (rkL (rc1 n m) m=[(⟨4,N.term,N.id,m.frm,(m.index+(m.ents.length:Int)),0,[],0,true⟩:Ms)]):=by show _ = _;rw[HB.out,if_pos hF4];rfl
     clear HA HB hF4 hkc hag HG hmF;have hwt:IntKind.i64.wrap (m.index+(m.ents.length:Int))=(m.index+(m.ents.length:Int)):=by rw[IntKind.wrap_i64];omega
     go_wp2_with (first|((with_reducible refine wN 24 (.tmp 212) (.tmp 211) (w.heap.size) 4 (.slice ao L.length cap) ((⟨N.id,N.peers,N.term,N.vote,L,1,N.commit,[],[],[]⟩:Nd)) (⟨ao,cap,vo4,vc4,no4,nc4,mo4,mc4⟩) h7.a ?_);intro W8 v8 gA8;have o8:=h7.o.gr gA8 (ndT h7.a) (by decide) (by decide);have h8:RS w base qb e0 (⟨N.id,N.peers,N.term,N.vote,L,1,N.commit,[],[],[]⟩:Nd) ⟨ao,cap,vo4,vc4,no4,nc4,mo4,mc4⟩ m eo ec (⟨4,N.term,N.id,m.frm,0,0,[],0,false⟩:Ms) W8:=h7.putA v8 ⟨hown7.gr gA8 (ndT h7.a) (by decide),o8.v,o8.x,o8.m,o8.vx,o8.vm,o8.xm⟩ gA8;clear f0 f1 f2 f3 f4 f5 f6 f7 f8 f9 g0 g1 g2 g3 g4 g5 g6 g7 g8 gA8 v8 o8;obtain⟨f0,f1,f2,f3,f4,f5,f6,f7,f8,f9⟩:=cN h8.a;obtain⟨g0,g1,g2,g3,g4,g5,g6,g7,g8⟩:=cM h8.m)|fail)
     clear f0 f1 f2 f3 f4 f5 f6 f7 f8 f9 g0 g1 g2 g3 g4 g5 g6 g7 g8;have hd:RB W8 W8.drew:=(Below.refl _ _).drew;have hD:=RS.next h8 hd;clear hd
     refine region_store (by kernel_rfl) (by kernel_rfl) (by kernel_rfl) RB RB.refl RB.trans
      [isV (.pointer (some ⟨w.heap.size,6,none⟩)),isV (.int .i64 N.commit),isV (.pointer (some ⟨w.heap.size+1,7,none⟩)),isV (.int .i64 m.commit),isV (.int .i64 (m.index+(m.ents.length:Int))),isV (.int .i64 (min (m.commit) ((m.index+(m.ents.length:Int))))),isV (.int .i64 (max (N.commit) ((min (m.commit) ((m.index+(m.ents.length:Int))))))),isV (.pointer (some ⟨w.heap.size,6,none⟩))]
      ⟨isV.rb,isV.rb,isV.rb,isV.rb,isV.rb,isV.rb,isV.rb,isV.rb,trivial⟩ rfl ?_ _ rfl rfl rfl
      (fun v9 W9=>RS w base qb e0 (⟨N.id,N.peers,N.term,N.vote,L,1,max N.commit (min m.commit (m.index+(m.ents.length:Int))),[],[],[]⟩:Nd) ⟨ao,cap,vo4,vc4,no4,nc4,mo4,mc4⟩ m eo ec (⟨4,N.term,N.id,m.frm,0,0,[],0,false⟩:Ms) W9) ?_ ?_
     ·simp only[List.size_toArray,List.length_cons,List.length_nil,Nat.reduceAdd,Nat.reduceSub,List.take_succ_cons,List.take_zero]
      refine⟨?_,?_,?_,?_,?_,?_,?_,?_,trivial⟩
      ·exact oq rfl fun ev w9 v hR E pr=>by
        have e1:=E.was 2 _;simp[go_sem,e1]
      ·exact oq rfl fun ev w9 v hR E pr=>by
        have e1:=E.eq pr 0 213;have cc:=(hD.a.next hR).cell (j:=6) (by omega);simp[lf]at cc;simp[go_sem,cc,e1]
      ·exact oq rfl fun ev w9 v hR E pr=>by
        have e1:=E.was 3 _;simp[go_sem,e1]
      ·exact oq rfl fun ev w9 v hR E pr=>by
        have e1:=E.eq pr 2 215;have cc:=(hD.m.next hR).cell (j:=7) (by omega);simp[lf]at cc;simp[go_sem,cc,e1]
      ·exact oq rfl fun ev w9 v hR E pr=>by
        have e1:=E.was 17 _;simp[go_sem,e1]
      ·exact OpOk.ret _ (fun _=>rfl) fun ev w9 v hR E pr=>by
        have e1:=E.eq pr 3 216;have e2:=E.eq pr 4 217;refine⟨83,#[.int .i64 m.commit,.int .i64 (m.index+(m.ents.length:Int))],by simp[go_sem,gv,e1,e2,E.fn],?_⟩;exact l1Min_rb (m.commit) ((m.index+(m.ents.length:Int))) _
      ·exact OpOk.ret _ (fun _=>rfl) fun ev w9 v hR E pr=>by
        have e1:=E.eq pr 1 214;have e2:=E.eq pr 5 218;refine⟨69,#[.int .i64 N.commit,.int .i64 (min (m.commit) ((m.index+(m.ents.length:Int))))],by simp[go_sem,gv,e1,e2,E.fn],?_⟩;exact l1Max_rb (N.commit) ((min (m.commit) ((m.index+(m.ents.length:Int))))) _
      ·exact oq rfl fun ev w9 v hR E pr=>by
        have e1:=E.was 2 _;simp[go_sem,e1]
     ·intro ev w9 v hR E hp9
      obtain⟨_,_,_,_,_,_,p6,p7,_⟩:=hp9;have E1:=E.at_ 7 220 rfl (by kernel_rfl) (Nat.le_of_ble_eq_true (by kernel_rfl));have E2:=E.at_ 6 219 rfl (by kernel_rfl) (Nat.le_of_ble_eq_true (by kernel_rfl));rw[p7]at E1;rw[p6]at E2;have h9:=RS.next hD hR;have g9:=gr_setCell w9 w.heap.size 6 (.int .i64 (max N.commit (min m.commit (m.index+(m.ents.length:Int)))));have o9:=h9.o.gr g9 (ndT h9.a) (by decide) (by decide);exact⟨_,exec_cell rfl E1 E2 h9.a (by omega) (by kernel_rfl) rfl (oneV rfl),h9.putA (NdB.put h9.a 6 (by omega) _ rfl) ⟨o9.l,o9.v,o9.x,o9.m,o9.vx,o9.vm,o9.xm⟩ g9⟩
     ·intro v9 W9 h9
      simp only[List.size_toArray,List.length_cons,List.length_nil,Nat.reduceAdd,Nat.reduceSub,List.take_succ_cons,List.take_zero];rw[putL_seg v9 _ 0 213]
      rotate_left
      ·kernel_rfl
      ·exact Nat.le_of_ble_eq_true (by kernel_rfl)
      simp only[segV,List.length_cons,List.length_nil,List.take_succ_cons,List.take_zero,List.drop_succ_cons,List.drop_zero,List.cons_append,List.nil_append,Nat.reduceAdd,Nat.zero_add];clear hD;obtain⟨f0,f1,f2,f3,f4,f5,f6,f7,f8,f9⟩:=cN h9.a
      go_wp2_with (first|((with_reducible refine wM 4 (.tmp 221) (.const (.bool true)) (qb) 8 (.bool true) ((⟨4,N.term,N.id,m.frm,0,0,[],0,true⟩:Ms)) h9.q ?_);intro W10 vQ10 gQ;have h10:RS w base qb e0 (⟨N.id,N.peers,N.term,N.vote,L,1,max N.commit (min m.commit (m.index+(m.ents.length:Int))),[],[],[]⟩:Nd) ⟨ao,cap,vo4,vc4,no4,nc4,mo4,mc4⟩ m eo ec (⟨4,N.term,N.id,m.frm,0,0,[],0,true⟩:Ms) W10:=h9.putQ vQ10 gQ;clear f0 f1 f2 f3 f4 f5 f6 f7 f8 f9 gQ vQ10;obtain⟨f0,f1,f2,f3,f4,f5,f6,f7,f8,f9⟩:=cN h10.a)|((with_reducible refine wM 2 (.tmp 223) (.tmp 222) (qb) 4 (.int .i64 (m.index+(m.ents.length:Int))) ((⟨4,N.term,N.id,m.frm,(m.index+(m.ents.length:Int)),0,[],0,true⟩:Ms)) h10.q ?_);intro W11 vQ11 gQ;have h11:=h10.putQ vQ11 gQ;clear gQ vQ11)|fail)
      clear f0 f1 f2 f3 f4 f5 f6 f7 f8 f9;generalize (⟨N.id,N.peers,N.term,N.vote,L,1,max N.commit (min m.commit (m.index+(m.ents.length:Int))),[],[],[]⟩:Nd)=M at h11 HN;generalize hRE:(⟨4,N.term,N.id,m.frm,(m.index+(m.ents.length:Int)),0,[],0,true⟩:Ms)=RE at h11 HL;have HZ:Hid (RE.ents=[]):=by show _ = _;rw[<-hRE]
      clear hRE;have hd:RB W11 W11.drew:=(Below.refl _ _).drew;have hD:=RS.next h11 hd;clear hd
      refine region_put (by kernel_rfl) (by kernel_rfl) 3 [0] [1,2,4] (by kernel_rfl) (by kernel_rfl)
       (fun u v=>u.grownBy v (some (w.heap.size+1+1))/\Typed u (w.heap.size+1+1) 27)
       (fun W5=>NdB W5 (w.heap.size+1+1) M ⟨ao,cap,vo4,vc4,no4,nc4,mo4,mc4⟩/\NdO W5 base M ⟨ao,cap,vo4,vc4,no4,nc4,mo4,mc4⟩/\Ch base w W5/\MsB W5 qb RE none 0)
       (fun a b h hR=>⟨VHas.next h.1 hR,h.2.1.next hR,h.2.2.1.trans (Ch.of_rb hR),VHas.next h.2.2.2 hR⟩)
       [isV (ndV M ⟨ao,cap,vo4,vc4,no4,nc4,mo4,mc4⟩),isV (msV RE none 0),NetV w.heap.size [RE],fun _ _=>True,NetV w.heap.size [RE]]
       ⟨isV.rb,isV.rb,NetV.rb,fun _ _ _ h _=>h,NetV.rb,trivial⟩ ?_ ?_ (lates ?_) _ rfl rfl ?_ ?_
      ·intro i hi v a b h hx
       simp only[List.mem_cons,List.not_mem_nil,or_false]at hi;rcases hi with rfl|rfl|rfl
       ·exact h
       ·exact NetV.gr h hx.1 hx.2
       ·exact NetV.gr h hx.1 hx.2
      ·intro i hi o ho
       simp only[List.mem_cons,List.not_mem_nil,or_false]at hi;subst hi;obtain rfl:=Option.some.inj ho
       exact oq rfl fun ev w9 v hR E pr=>by
        have e1:=E.was 2 _;exact exec_nd rfl e1 (VHas.next hD.a hR)
      ·refine late_skip rfl (late_cons ?_ (late_cons ?_ (late_skip rfl (late_cons ?_ trivial))))
       ·exact LateOk.get _ (fun _=>rfl) fun ev w9 v hR E pr=>by
         have e1:=E.was 8 _
         have vv:MsB w9 qb RE none 0:=by
          rcases hR with hR|hR
          ·exact VHas.next hD.q hR
          ·exact hR.2.2.2
         exact exec_ms rfl e1 vv
       ·intro ev w9 v hR E pr
        have e1:ev (.tmp 225)=msV RE none 0:=E.kept pr 1 225
        have hs9:w.heap.size<=w9.heap.size:=by
         rcases hR with hR|hR
         ·exact Nat.le_trans hD.c.size hR.size
         ·exact hR.2.2.1.size
        exact⟨.slice (some ⟨w9.heap.size,0,none⟩) 1 1,w9.alloc (.cells (msL RE none 0).toArray 29),(by (simp[go_sem,e1])<;>rfl),RB.alloc _ _,NetV.from (netV_one w9 RE HZ.out) hs9⟩
       ·intro ev w9 v hR E pr
        exact⟨ev (.tmp 226),w9,by simp[go_sem],RB.refl _,E.kept pr 2 226⟩
      ·intro ev w5 v hR E hp
       have E1:ev (.tmp 224)=ndV M ⟨ao,cap,vo4,vc4,no4,nc4,mo4,mc4⟩:=E.get hp 0 224;have E2:ev (.tmp 4)=.pointer (some ⟨w.heap.size+1+1,0,none⟩):=E.was 4 _;have hD5:=RS.next hD hR;have hg:w5.grownBy (setL w5 (w.heap.size+1+1) 0 (ndL M ⟨ao,cap,vo4,vc4,no4,nc4,mo4,mc4⟩)) (some (w.heap.size+1+1)):=gr_setL _ _ 0 _;exact⟨_,exec_box (ndL M ⟨ao,cap,vo4,vc4,no4,nc4,mo4,mc4⟩) rfl E2 E1 hD5.r (by kernel_rfl) (oneAll (by kernel_rfl)),⟨hg,hD5.r.typed⟩,vhas_box _ hD5.r,hD5.o.gr hg (ndT hD5.r) (by decide) (by decide),hD5.c.box hg (by omega),VHas.gr hD5.q hg (ndT hD5.r) (by decide)⟩
      ·intro v8 w8 hP8 hk8
       have k8:NetV w.heap.size [RE] (v8 4) w8:=hk8 4 (by decide) (Nat.le_of_ble_eq_true (by kernel_rfl)) (by decide);simp only[putL,Nat.zero_add,Nat.reduceAdd,Act.put,List.setIfInBounds_toArray,List.set_cons_zero,List.set_cons_succ];obtain⟨hv9,hO9,hC9,_⟩:=hP8;obtain⟨q0,q1,q2,q3,q4,q5,q6,q7,q8,q9⟩:=cN hv9;go_wp2;exact bodyPost_ret (v:=.tuple #[ndV M ⟨ao,cap,vo4,vc4,no4,nc4,mo4,mc4⟩,v8 4]) (by simp[results,Tryz.results37,go_sem,q0,q1,q2,q3,q4,q5,q6,q7,q8,q9]) rfl (by rw[HN.out,HL.out];exact⟨⟨ao,cap,vo4,vc4,no4,nc4,mo4,mc4⟩,v8 4,rfl,hO9,k8,hC9⟩)
end
end Go.Proofs.YtbabakgjkloabaaGreatDoor
