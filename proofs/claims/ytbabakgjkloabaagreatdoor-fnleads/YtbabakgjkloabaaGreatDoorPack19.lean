/-
  Helpers: Sr1, Srw, Sr2, Srq.
-/
import Derived.Test.YtbabakgjkloabaaGreatDoorPack2
import Derived.Test.YtbabakgjkloabaaGreatDoorPack8
import Derived.Test.YtbabakgjkloabaaGreatDoorPack1
import Derived.Test.YtbabakgjkloabaaGreatDoorPack17
import Derived.Test.YtbabakgjkloabaaGreatDoorPack18
import Derived.Test.YtbabakgjkloabaaGreatDoorPack12
import Derived.Deep.DeepCutAuto
import Derived.Test.YtbabakgjkloabaaGreatDoorPack10
import Derived.Test.YtbabakgjkloabaaGreatDoorPack13
set_option linter.unusedVariables false
set_option linter.unusedSimpArgs false
namespace Go.Proofs.YtbabakgjkloabaaGreatDoor
section
open Go Go.RowKit
attribute [local go_sem ↓] Go.wp_at_zero Go.wp_at_succ
set_option maxRecDepth 100000 in
set_option maxHeartbeats 16000000 in
theorem specRecv1_any (n:Nd) (s:NdS) (hz:NdZ n s) (m:Ms) (eo:Option Addr) (ec:Nat) (hmz:MsZ m) (hB:nodeB n=true) (hix:-9223372036854775808<=m.index/\m.index<=9223372036854775807) (base:Nat) (w:World) (hbs:base<=w.heap.size) (hO:NdO w base n s) (hE:MsM w m eo ec) (hk:m.kind=1) (hF:forB n m=true):Calls Tryz.prog 37 #[ndV n s,msV m eo ec] w fun e w'=>ReA base (rkN (rc1 n m) m) (rkL (rc1 n m) m) w w' e:=by
 have hpe:=nodeB_peers hB;replace hk:Hid (m.kind=1):=hk;have hb:=RB.trans _ _ _ (RB.trans _ _ _ (RB.alloc w (.cells (ndL n s).toArray 27)) (RB.alloc _ (.cells (msL m eo ec).toArray 29))) (RB.alloc _ (.cells (ndL nd0 ns0).toArray 27));have vA:NdB _ w.heap.size n s:=((ndB_new w n s).next (RB.alloc _ (.cells (msL m eo ec).toArray 29))).next (RB.alloc _ (.cells (ndL nd0 ns0).toArray 27));have vM:MsB _ (w.alloc (.cells (ndL n s).toArray 27)).heap.size m eo ec:=(msB_new (w.alloc (.cells (ndL n s).toArray 27)) m eo ec).next (RB.alloc _ (.cells (ndL nd0 ns0).toArray 27));have vR:=ndB_new ((w.alloc (.cells (ndL n s).toArray 27)).alloc (.cells (msL m eo ec).toArray 29)) nd0 ns0;rw[World.size_alloc]at vM;rw[World.size_alloc,World.size_alloc]at vR;have HE:Hid (∀ W,Ch base w W->LRow w 47 eo (elc m.ents)->True):=fun _ _ _=>trivial
 replace hO:=hO.next hb;have hEn:=hE.e.next hb;have hEc:=hE.c;clear HE hE;go_enter Tryz.func37,Tryz.ntmps37;refine wp_seq_h' fun K0 hK0=>?_
 go_wp2;refine hK0.out _ _ ?_;clear hK0;generalize (((w.alloc _).alloc _).alloc _)=W at hb vA vM vR hO hEn ⊢;have hal:=RB.alloc W (.cells #[] 29);have hN0:GOwn (W.alloc (.cells #[] 29)) w.heap.size 29 9 (some ⟨W.heap.size,0,none⟩) 0 0 (lf (nlc [])):=GOwn.from (GOwn.empty W 29 9 _) hb.size
 replace hb:=RB.trans _ _ _ hb hal;replace vA:=VHas.next vA hal;replace vM:=VHas.next vM hal;replace vR:=VHas.next vR hal;replace hO:=hO.next hal;replace hEn:=hEn.next hal;clear hal;obtain⟨f0,f1,f2,f3,f4,f5,f6,f7,f8,f9⟩:=cN vA;obtain⟨g0,g1,g2,g3,g4,g5,g6,g7,g8⟩:=cM vM
 go_wp2_with fail
 generalize W.heap.size=e0 at hN0 ⊢;generalize (W.alloc _)=W1 at hN0 hb vA vM vR hO hEn f0 f1 f2 f3 f4 f5 f6 f7 f8 f9 g0 g1 g2 g3 g4 g5 g6 g7 g8 ⊢;refine (specTold_any n s m eo ec ⟨hpe.1,hpe.2.1⟩ hmz.l hmz.x _ hEn).mono ?_;rintro e w1 ⟨rfl,hb1⟩;replace hb:=RB.trans _ _ _ hb hb1;replace vA:NdB w1 w.heap.size n s:=VHas.next vA hb1;replace vM:MsB w1 (w.heap.size+1) m eo ec:=VHas.next vM hb1;replace vR:NdB w1 (w.heap.size+1+1) nd0 ns0:=VHas.next vR hb1;replace hN0:=GOwn.next hN0 hb1;replace hO:=hO.next hb1;replace hEn:=hEn.next hb1;clear hb1 f0 f1 f2 f3 f4 f5 f6 f7 f8 f9 g0 g1 g2 g3 g4 g5 g6 g7 g8;have hC:Ch base w w1:=Ch.of_rb hb;have hwsz:w.heap.size+1+1<w1.heap.size:=vR.lt;clear hb;rw[hF];have hff:=hF;simp only[forB,Bool.and_eq_true]at hff
 have hfr:0<=m.frm/\m.frm<n.peers:=by
  have:=hff.2.2.1;simpa[srvB] using this
 have hmt:1<=m.term/\m.term<=100000:=⟨of_decide_eq_true hff.2.2.2.2.2.1,of_decide_eq_true hff.2.2.2.2.2.2.1⟩
 clear hff hF;obtain⟨f0,f1,f2,f3,f4,f5,f6,f7,f8,f9⟩:=cN vA;obtain⟨g0,g1,g2,g3,g4,g5,g6,g7,g8⟩:=cM vM
 go_upto_if 30 with fail
 go_cut [] from 19 to 32 (fun wc=>∃ N s2,NdB wc w.heap.size N s2/\MsB wc (w.heap.size+1) m eo ec/\NdB wc (w.heap.size+1+1) nd0 ns0/\NdO wc base N s2/\GOwn wc w.heap.size 29 9 (some ⟨e0,0,none⟩) 0 0 (lf (nlc []))/\Ch base w wc/\LRow wc 47 eo (elc m.ents)/\rc1 n m=N/\NkR N/\NdZ N s2/\N.peers=n.peers)
 case first=>
  by_cases hup:n.term<m.term
  ·have hrc:rc1 n m=(upN n m.term):=if_pos hup
   go_wp2_with (first|((with_reducible refine wN 2 (.tmp 33) (.tmp 32) (w.heap.size) 2 (.int .i64 m.term) ((⟨n.id,n.peers,m.term,n.vote,n.log,n.role,n.commit,n.votes,n.next,n.mat⟩:Nd)) (s) vA ?_);intro Wa va ga)|((with_reducible refine wpList_nd rfl 2 (.tmp 34) (.const (.int .i64 (-1))) rfl rfl (w.heap.size) 3 (.int .i64 (-1)) (by simp[go_sem]) (by simp[go_sem]) ((⟨n.id,n.peers,m.term,-1,n.log,n.role,n.commit,n.votes,n.next,n.mat⟩:Nd)) (s) va (by omega) (by kernel_rfl) (by kernel_rfl) (oneV (by kernel_rfl)) (by kernel_rfl) ?_);intro Wb vb gb)|fail)
   clear f0 f1 f2 f3 f4 f5 f6 f7 f8 f9 g0 g1 g2 g3 g4 g5 g6 g7 g8;have hOb:=(hO.gr ga (ndT vA) (by decide) (by decide)).gr gb (ndT va) (by decide) (by decide);have vMb:MsB Wb (w.heap.size+1) m eo ec:=VHas.grown (VHas.grown vM ga (fun e=>by have:=Option.some.inj e;omega)) gb (fun e=>by have:=Option.some.inj e;omega);have vRb:NdB Wb (w.heap.size+1+1) nd0 ns0:=VHas.grown (VHas.grown vR ga (fun e=>by have:=Option.some.inj e;omega)) gb (fun e=>by have:=Option.some.inj e;omega);have hNb:=GOwn.gr (GOwn.gr hN0 ga (ndT vA) (by decide)) gb (ndT va) (by decide);have hEb:=(hEn.gr ga (ndT vA) (by decide)).gr gb (ndT va) (by decide);have hCb:=(hC.box ga nl).box gb nl;have hO2:NdO Wb base (⟨n.id,n.peers,m.term,-1,n.log,n.role,n.commit,n.votes,n.next,n.mat⟩:Nd) s:=⟨hOb.l,hOb.v,hOb.x,hOb.m,hOb.vx,hOb.vm,hOb.xm⟩
   clear hO vM vR hN0 hEn hC ga vA va hOb;refine (specFollow_any (⟨n.id,n.peers,m.term,-1,n.log,n.role,n.commit,n.votes,n.next,n.mat⟩:Nd) s w.heap.size base _ (Nat.le_trans hbs hCb.size) vb hO2).mono ?_;rintro e w2 ⟨rfl,s2,vA,hO,gA⟩;have eU:folN (⟨n.id,n.peers,m.term,-1,n.log,n.role,n.commit,n.votes,n.next,n.mat⟩:Nd)=(upN n m.term):=rfl;rw[eU]at vA hO;have vM:MsB w2 (w.heap.size+1) m eo ec:=VHas.grown vMb gA (fun e=>by have:=Option.some.inj e;omega);have vR:NdB w2 (w.heap.size+1+1) nd0 ns0:=VHas.grown vRb gA (fun e=>by have:=Option.some.inj e;omega);have hN0:=GOwn.gr hNb gA (ndT vb) (by decide);have hEn:=hEb.gr gA (ndT vb) (by decide);have hC:=hCb.box gA nl;have hzU:=nkR_zO (nkR_up hB hmt) hO hz.l hz.tx (by simp[upN]) (by simp[upN]) (by simp[upN]);clear vMb vRb hNb hEb hCb hO2 vb gb gA hup eU;go_wp2
   go_meet
   case rel=>exact⟨(upN n m.term),s2,vA,vM,vR,hO,hN0,hC,hEn,hrc,nkR_up hB hmt,hzU,rfl⟩
  ·go_wp2
   go_meet
   case rel=>exact⟨n,s,vA,vM,vR,hO,hN0,hC,hEn,if_neg (by omega),nkR_of hB,hz,rfl⟩
 case rest=>
  clear vA vM vR hO hN0 hC hEn hwsz f0 f1 f2 f3 f4 f5 f6 f7 f8 f9 g0 g1 g2 g3 g4 g5 g6 g7 g8;obtain⟨N,s2,vA,vM,vR,hO,hN0,hC,hEn,hrc,hBN,hzN,hNp⟩:=hcut;have hwsz:w.heap.size+1+1<wc.heap.size:=vR.lt;replace hrc:Hid (rc1 n m=N):=hrc;replace hBN:Hid (NkR N):=hBN;replace hNp:Hid (N.peers=n.peers):=hNp;obtain⟨lo,lc,vo,vc,no,nc,mo,mc⟩:=s2;obtain⟨f0,f1,f2,f3,f4,f5,f6,f7,f8,f9⟩:=cN vA;obtain⟨g0,g1,g2,g3,g4,g5,g6,g7,g8⟩:=cM vM;have hal:=RB.alloc wc (.cells (msL ms0 none 0).toArray 29);have h0:RS w base wc.heap.size e0 N ⟨lo,lc,vo,vc,no,nc,mo,mc⟩ m eo ec ms0 (wc.alloc (.cells (msL ms0 none 0).toArray 29)):=⟨VHas.next vA hal,VHas.next vM hal,VHas.next vR hal,msB_new wc ms0 none 0,hO.next hal,GOwn.next hN0 hal,hC.trans (Ch.of_rb hal),vR.lt,(GOwn.at hN0 rfl).2⟩
  replace hEn:=hEn.next hal;clear hal vA vM vR hN0 hC hO
  go_upto_if 48 with (first|((with_reducible refine wB 29 (.tmp 8) (.tmp 45) wc.heap.size (msL (⟨0,N.term,N.id,m.frm,0,0,[],0,false⟩:Ms) none 0) h0.q ?_);intro W2 vQ2 gQ;have h1:RS w base wc.heap.size e0 N ⟨lo,lc,vo,vc,no,nc,mo,mc⟩ m eo ec (⟨0,N.term,N.id,m.frm,0,0,[],0,false⟩:Ms) W2:=h0.putQ vQ2 gQ;have hEn1:=hEn.gr gQ (fun x e=>by cases e;exact h0.q.typed) (by decide);clear f0 f1 f2 f3 f4 f5 f6 f7 f8 f9 g0 g1 g2 g3 g4 g5 g6 g7 g8 gQ vQ2;obtain⟨f0,f1,f2,f3,f4,f5,f6,f7,f8,f9⟩:=cN h1.a;obtain⟨g0,g1,g2,g3,g4,g5,g6,g7,g8⟩:=cM h1.m)|fail)
  generalize wc.heap.size=qb at h1 hwsz ⊢;clear h0 hEn
  have k1:(m.kind==1)=true:=by rw[hk.out];rfl
  go_upto_region 13 with (first|((with_reducible refine wM 2 (.tmp 50) (.const (.int .i64 2)) (qb) 0 (.int .i64 2) ((⟨2,N.term,N.id,m.frm,0,0,[],0,false⟩:Ms)) h1.q ?_);intro W3 vQ3 gQ;have h2:=h1.putQ vQ3 gQ;clear f0 f1 f2 f3 f4 f5 f6 f7 f8 f9 g0 g1 g2 g3 g4 g5 g6 g7 g8 gQ vQ3;obtain⟨f0,f1,f2,f3,f4,f5,f6,f7,f8,f9⟩:=cN h2.a;obtain⟨g0,g1,g2,g3,g4,g5,g6,g7,g8⟩:=cM h2.m)|fail)
  clear k1
  go_cut [48,49,76] from 50 to 51 (fun _ _ x wz=>x=.bool (vyB N m)/\wz=W3)
  case first=>
   clear hk;rcases Bool.eq_false_or_eq_true (m.term==N.term) with b1|b1
   rotate_left
   ·have hvB:vyB N m=false:=by simp[vyB,b1]
    go_wp2
    go_meet
    case rel=>exact⟨by rw[hvB],rfl⟩
   rcases Bool.eq_false_or_eq_true (N.vote == -1) with b2|b2
   ·go_wp2_with fail
    refine (l10Newer_any lo N.log.length lc (tOf N.log) (xOf N.log) m.index m.lterm (by have:=hzN.l;omega) _ h2.o.M.l.n).mono ?_;rintro e w4 ⟨rfl,hw4⟩;replace hw4:=hw4.symm;subst hw4;have hvB:vyB N m=newT N.log.length (tOf N.log) m.index m.lterm:=by simp[vyB,b1,b2]
    go_wp2
    go_meet
    case rel=>exact⟨by rw[hvB],rfl⟩
   rcases Bool.eq_false_or_eq_true (N.vote==m.frm) with b3|b3
   rotate_left
   ·have hvB:vyB N m=false:=by simp[vyB,b2,b3]
    go_wp2
    go_meet
    case rel=>exact⟨by rw[hvB],rfl⟩
   go_wp2_with fail
   refine (l10Newer_any lo N.log.length lc (tOf N.log) (xOf N.log) m.index m.lterm (by have:=hzN.l;omega) _ h2.o.M.l.n).mono ?_;rintro e w4 ⟨rfl,hw4⟩;replace hw4:=hw4.symm;subst hw4;have hvB:vyB N m=newT N.log.length (tOf N.log) m.index m.lterm:=by simp[vyB,b1,b2,b3]
   go_wp2
   go_meet
   case rel=>exact⟨by rw[hvB],rfl⟩
  case rest=>
   obtain⟨rfl,rfl⟩:=hcut;have HN:rkN (rc1 n m) m=if vyB N m=true then (⟨N.id,N.peers,N.term,m.frm,N.log,N.role,N.commit,N.votes,N.next,N.mat⟩:Nd) else N:=by rw[hrc.out];simp[rkN,hk.out,vyN]
   have HL:rkL (rc1 n m) m=if vyB N m=true then [(⟨2,N.term,N.id,m.frm,0,0,[],0,true⟩:Ms)] else [(⟨2,N.term,N.id,m.frm,0,0,[],0,false⟩:Ms)]:=by rw[hrc.out];cases hv:vyB N m<;>simp[rkL,hk.out,vyN,votedM,hv]
   go_upto_if 76 with fail
   go_cut [] from 76 to 77 (fun wc=>∃ N' RE,RS w base qb e0 N' ⟨lo,lc,vo,vc,no,nc,mo,mc⟩ m eo ec RE wc/\RE.ents=[]/\rkN (rc1 n m) m=N'/\rkL (rc1 n m) m=[RE])
   case first=>
    rcases Bool.eq_false_or_eq_true (vyB N m) with hv|hv
    rotate_left
    ·rw[hv]at HN HL ⊢
     go_wp2
     go_meet
     case rel=>exact⟨_,_,h2,rfl,HN,HL⟩
    rw[hv]at HN HL ⊢
    go_wp2_with (first|((with_reducible refine wN 2 (.tmp 79) (.tmp 78) (w.heap.size) 3 (.int .i64 m.frm) ((⟨N.id,N.peers,N.term,m.frm,N.log,N.role,N.commit,N.votes,N.next,N.mat⟩:Nd)) (⟨lo,lc,vo,vc,no,nc,mo,mc⟩) h2.a ?_);intro W5 vA5 gA;have o5:=h2.o.gr gA (ndT h2.a) (by decide) (by decide);have h3:=h2.putA vA5 ⟨o5.l,o5.v,o5.x,o5.m,o5.vx,o5.vm,o5.xm⟩ gA)|((with_reducible refine wM 4 (.tmp 80) (.const (.bool true)) (qb) 8 (.bool true) ((⟨2,N.term,N.id,m.frm,0,0,[],0,true⟩:Ms)) h3.q ?_);intro W6 vQ6 gQ)|fail)
    go_meet
    case rel=>exact⟨_,_,h3.putQ vQ6 gQ,rfl,HN,HL⟩
   case rest=>
    clear h2 f0 f1 f2 f3 f4 f5 f6 f7 f8 f9 g0 g1 g2 g3 g4 g5 g6 g7 g8 HN HL;obtain⟨M,RE,h2,HZ,HN,HL⟩:=hcut;replace HZ:Hid _:=HZ
    go_upto_region 16 with fail
    have hd:RB wc wc.drew:=(Below.refl _ _).drew;have hD:=RS.next h2 hd;clear hd
    refine region_put (by kernel_rfl) (by kernel_rfl) 3 [0] [1,2,4] (by kernel_rfl) (by kernel_rfl)
     (fun u v=>u.grownBy v (some (w.heap.size+1+1))/\Typed u (w.heap.size+1+1) 27)
     (fun W5=>NdB W5 (w.heap.size+1+1) M ⟨lo,lc,vo,vc,no,nc,mo,mc⟩/\NdO W5 base M ⟨lo,lc,vo,vc,no,nc,mo,mc⟩/\Ch base w W5/\MsB W5 qb RE none 0)
     (fun a b h hR=>⟨VHas.next h.1 hR,h.2.1.next hR,h.2.2.1.trans (Ch.of_rb hR),VHas.next h.2.2.2 hR⟩)
     [isV (ndV M ⟨lo,lc,vo,vc,no,nc,mo,mc⟩),isV (msV RE none 0),NetV w.heap.size [RE],fun _ _=>True,NetV w.heap.size [RE]]
     ⟨isV.rb,isV.rb,NetV.rb,fun _ _ _ h _=>h,NetV.rb,trivial⟩ ?_ ?_ (lates ?_) _ rfl rfl ?_ ?_
    ·intro i hi v a b h hx
     simp only[List.mem_cons,List.not_mem_nil,or_false]at hi;rcases hi with rfl|rfl|rfl
     ·exact h
     ·exact NetV.gr h hx.1 hx.2
     ·exact NetV.gr h hx.1 hx.2
    ·intro i hi o ho
     simp only[List.mem_cons,List.not_mem_nil,or_false]at hi;subst hi;obtain rfl:=Option.some.inj ho
     exact oq rfl fun ev w9 v hR E pr=>by
      have e1:=E.was 2 _;exact exec_nd rfl e1 (VHas.next hD.a hR)
    ·refine late_skip rfl (late_cons ?_ (late_cons ?_ (late_skip rfl (late_cons ?_ trivial))))
     ·exact LateOk.get _ (fun _=>rfl) fun ev w9 v hR E pr=>by
       have e1:=E.was 8 _
       have vv:MsB w9 qb RE none 0:=by
        rcases hR with hR|hR
        ·exact VHas.next hD.q hR
        ·exact hR.2.2.2
       exact exec_ms rfl e1 vv
     ·intro ev w9 v hR E pr
      have e1:ev (.tmp 82)=msV RE none 0:=E.kept pr 1 82
      have hs9:w.heap.size<=w9.heap.size:=by
       rcases hR with hR|hR
       ·exact Nat.le_trans hD.c.size hR.size
       ·exact hR.2.2.1.size
      exact⟨.slice (some ⟨w9.heap.size,0,none⟩) 1 1,w9.alloc (.cells (msL RE none 0).toArray 29),(by (simp[go_sem,e1])<;>rfl),RB.alloc _ _,NetV.from (netV_one w9 RE HZ.out) hs9⟩
     ·intro ev w9 v hR E pr
      exact⟨ev (.tmp 83),w9,by simp[go_sem],RB.refl _,E.kept pr 2 83⟩
    ·intro ev w5 v hR E hp
     have E1:ev (.tmp 81)=ndV M ⟨lo,lc,vo,vc,no,nc,mo,mc⟩:=E.get hp 0 81;have E2:ev (.tmp 4)=.pointer (some ⟨w.heap.size+1+1,0,none⟩):=E.was 4 _;have hD5:=RS.next hD hR;have hg:w5.grownBy (setL w5 (w.heap.size+1+1) 0 (ndL M ⟨lo,lc,vo,vc,no,nc,mo,mc⟩)) (some (w.heap.size+1+1)):=gr_setL _ _ 0 _;exact⟨_,exec_box (ndL M ⟨lo,lc,vo,vc,no,nc,mo,mc⟩) rfl E2 E1 hD5.r (by kernel_rfl) (oneAll (by kernel_rfl)),⟨hg,hD5.r.typed⟩,vhas_box _ hD5.r,hD5.o.gr hg (ndT hD5.r) (by decide) (by decide),hD5.c.box hg (by omega),VHas.gr hD5.q hg (ndT hD5.r) (by decide)⟩
    ·intro v8 w8 hP8 hk8
     have k8:NetV w.heap.size [RE] (v8 4) w8:=hk8 4 (by decide) (Nat.le_of_ble_eq_true (by kernel_rfl)) (by decide);simp only[putL,Nat.zero_add,Nat.reduceAdd,Act.put,List.setIfInBounds_toArray,List.set_cons_zero,List.set_cons_succ];obtain⟨hv9,hO9,hC9,_⟩:=hP8;obtain⟨q0,q1,q2,q3,q4,q5,q6,q7,q8,q9⟩:=cN hv9;go_wp2;exact bodyPost_ret (v:=.tuple #[ndV M ⟨lo,lc,vo,vc,no,nc,mo,mc⟩,v8 4]) (by simp[results,Tryz.results37,go_sem,q0,q1,q2,q3,q4,q5,q6,q7,q8,q9]) rfl (by rw[HN,HL];exact⟨⟨lo,lc,vo,vc,no,nc,mo,mc⟩,v8 4,rfl,hO9,k8,hC9⟩)
end
section
open Go Go.RowKit
theorem vsL_step (p:Nat) (vs:List Int) (fr:Int):vsL (p+1) vs fr=vsL p vs fr++(if (((p:Int)==fr)||vs.contains (p:Int))=true then [(p:Int)] else []):=by
 simp only[vsL,List.range_succ,List.map_append,List.filter_append,List.map_cons,List.map_nil]
 congr 1
 rw[List.filter_cons]
 split<;>simp_all
theorem vsL_len (p:Nat) (vs:List Int) (fr:Int):(vsL p vs fr).length<=p:=by
 unfold vsL;refine Nat.le_trans (List.length_filter_le _ _) ?_;simp
theorem contains_step {vs:List Int} {i:Nat} {p:Int} (h:i<vs.length):(vs.take (i+1)).contains p=((vs.take i).contains p||(iOf vs i==p)):=by
 have e:iOf vs i=vs[i]:=by simp[iOf,h]
 rw[List.take_succ_eq_append_getElem h,e];simp only[List.contains_eq_any_beq,List.any_append,List.any_cons,List.any_nil,Bool.or_false]
 congr 1
 exact BEq.comm
theorem OwI.snoc {w:World} {base cap:Nat} {ao:Option Addr} {l:List Int} {x:Int} (h:GOwn w base 2 1 ao (l.length+1) cap (fun j=>if j<l.length*1 then lf (ilc l) j else .int .i64 x)):OwI w base ao cap (l++[x]):=by
 have e:(l++[x]).length=l.length+1:=by simp
 unfold OwI;rw[e];refine GOwn.congr h (fun j hj=>?_);have e2:ilc (l++[x])=ilc l++[.int .i64 x]:=by simp[ilc]
 rw[e2,lf_app,ilc_len,Nat.mul_one]
 split
 ·rfl
 ·have:j-l.length=0:=by omega
  rw[this];rfl
def LiV (base:Nat) (l:List Int) (v:Value) (w:World):Prop:=∃ ao cap,v=.slice ao l.length cap/\OwI w base ao cap l
theorem VHas.g2 {w w':World} {x n b:Nat} {t:TypeId} {f:Nat->Value} {r:Option Nat} (h:VHas w x t n f) (g:G2 b r w w') (h1:x≠b) (h2:r≠some x):VHas w' x t n f:=by
 have e:=g.block x h.lt h1 h2;obtain⟨cs,hb,hs,hc⟩:=h;exact⟨cs,by rw[e];exact hb,hs,hc⟩
end
section
open Go Go.RowKit
attribute [local go_sem ↓] Go.wp_at_zero Go.wp_at_succ
set_option maxRecDepth 100000 in
set_option maxHeartbeats 16000000 in
theorem specRecv2_any (n:Nd) (s:NdS) (hz:NdZ n s) (m:Ms) (eo:Option Addr) (ec:Nat) (hmz:MsZ m) (hB:nodeB n=true) (hix:-9223372036854775808<=m.index/\m.index<=9223372036854775807) (base:Nat) (w:World) (hbs:base<=w.heap.size) (hO:NdO w base n s) (hE:MsM w m eo ec) (hk:m.kind=2) (hF:forB n m=true):Calls Tryz.prog 37 #[ndV n s,msV m eo ec] w fun e w'=>ReA base (rkN (rc1 n m) m) (rkL (rc1 n m) m) w w' e:=by
 have hpe:=nodeB_peers hB;replace hk:Hid (m.kind=2):=hk;have hb:=RB.trans _ _ _ (RB.trans _ _ _ (RB.alloc w (.cells (ndL n s).toArray 27)) (RB.alloc _ (.cells (msL m eo ec).toArray 29))) (RB.alloc _ (.cells (ndL nd0 ns0).toArray 27));have vA:NdB _ w.heap.size n s:=((ndB_new w n s).next (RB.alloc _ (.cells (msL m eo ec).toArray 29))).next (RB.alloc _ (.cells (ndL nd0 ns0).toArray 27));have vM:MsB _ (w.alloc (.cells (ndL n s).toArray 27)).heap.size m eo ec:=(msB_new (w.alloc (.cells (ndL n s).toArray 27)) m eo ec).next (RB.alloc _ (.cells (ndL nd0 ns0).toArray 27));have vR:=ndB_new ((w.alloc (.cells (ndL n s).toArray 27)).alloc (.cells (msL m eo ec).toArray 29)) nd0 ns0;rw[World.size_alloc]at vM;rw[World.size_alloc,World.size_alloc]at vR;have HE:Hid (∀ W,Ch base w W->LRow w 47 eo (elc m.ents)->True):=fun _ _ _=>trivial
 replace hO:=hO.next hb;have hEn:=hE.e.next hb;have hEc:=hE.c;clear HE hE;go_enter Tryz.func37,Tryz.ntmps37;refine wp_seq_h' fun K0 hK0=>?_
 go_wp2;refine hK0.out _ _ ?_;clear hK0;generalize (((w.alloc _).alloc _).alloc _)=W at hb vA vM vR hO hEn ⊢;have hal:=RB.alloc W (.cells #[] 29);have hN0:GOwn (W.alloc (.cells #[] 29)) w.heap.size 29 9 (some ⟨W.heap.size,0,none⟩) 0 0 (lf (nlc [])):=GOwn.from (GOwn.empty W 29 9 _) hb.size
 replace hb:=RB.trans _ _ _ hb hal;replace vA:=VHas.next vA hal;replace vM:=VHas.next vM hal;replace vR:=VHas.next vR hal;replace hO:=hO.next hal;replace hEn:=hEn.next hal;clear hal;obtain⟨f0,f1,f2,f3,f4,f5,f6,f7,f8,f9⟩:=cN vA;obtain⟨g0,g1,g2,g3,g4,g5,g6,g7,g8⟩:=cM vM
 go_wp2_with fail
 generalize W.heap.size=e0 at hN0 ⊢;generalize (W.alloc _)=W1 at hN0 hb vA vM vR hO hEn f0 f1 f2 f3 f4 f5 f6 f7 f8 f9 g0 g1 g2 g3 g4 g5 g6 g7 g8 ⊢;refine (specTold_any n s m eo ec ⟨hpe.1,hpe.2.1⟩ hmz.l hmz.x _ hEn).mono ?_;rintro e w1 ⟨rfl,hb1⟩;replace hb:=RB.trans _ _ _ hb hb1;replace vA:NdB w1 w.heap.size n s:=VHas.next vA hb1;replace vM:MsB w1 (w.heap.size+1) m eo ec:=VHas.next vM hb1;replace vR:NdB w1 (w.heap.size+1+1) nd0 ns0:=VHas.next vR hb1;replace hN0:=GOwn.next hN0 hb1;replace hO:=hO.next hb1;replace hEn:=hEn.next hb1;clear hb1 f0 f1 f2 f3 f4 f5 f6 f7 f8 f9 g0 g1 g2 g3 g4 g5 g6 g7 g8;have hC:Ch base w w1:=Ch.of_rb hb;have hwsz:w.heap.size+1+1<w1.heap.size:=vR.lt;clear hb;rw[hF];have hff:=hF;simp only[forB,Bool.and_eq_true]at hff
 have hfr:0<=m.frm/\m.frm<n.peers:=by
  have:=hff.2.2.1;simpa[srvB] using this
 have hmt:1<=m.term/\m.term<=100000:=⟨of_decide_eq_true hff.2.2.2.2.2.1,of_decide_eq_true hff.2.2.2.2.2.2.1⟩
 clear hff hF;obtain⟨f0,f1,f2,f3,f4,f5,f6,f7,f8,f9⟩:=cN vA;obtain⟨g0,g1,g2,g3,g4,g5,g6,g7,g8⟩:=cM vM
 go_upto_if 30 with fail
 go_cut [] from 19 to 32 (fun wc=>∃ N s2,NdB wc w.heap.size N s2/\MsB wc (w.heap.size+1) m eo ec/\NdB wc (w.heap.size+1+1) nd0 ns0/\NdO wc base N s2/\GOwn wc w.heap.size 29 9 (some ⟨e0,0,none⟩) 0 0 (lf (nlc []))/\Ch base w wc/\LRow wc 47 eo (elc m.ents)/\rc1 n m=N/\NkR N/\NdZ N s2/\N.peers=n.peers)
 case first=>
  by_cases hup:n.term<m.term
  ·have hrc:rc1 n m=(upN n m.term):=if_pos hup
   go_wp2_with (first|((with_reducible refine wN 2 (.tmp 33) (.tmp 32) (w.heap.size) 2 (.int .i64 m.term) ((⟨n.id,n.peers,m.term,n.vote,n.log,n.role,n.commit,n.votes,n.next,n.mat⟩:Nd)) (s) vA ?_);intro Wa va ga)|((with_reducible refine wpList_nd rfl 2 (.tmp 34) (.const (.int .i64 (-1))) rfl rfl (w.heap.size) 3 (.int .i64 (-1)) (by simp[go_sem]) (by simp[go_sem]) ((⟨n.id,n.peers,m.term,-1,n.log,n.role,n.commit,n.votes,n.next,n.mat⟩:Nd)) (s) va (by omega) (by kernel_rfl) (by kernel_rfl) (oneV (by kernel_rfl)) (by kernel_rfl) ?_);intro Wb vb gb)|fail)
   clear f0 f1 f2 f3 f4 f5 f6 f7 f8 f9 g0 g1 g2 g3 g4 g5 g6 g7 g8;have hOb:=(hO.gr ga (ndT vA) (by decide) (by decide)).gr gb (ndT va) (by decide) (by decide);have vMb:MsB Wb (w.heap.size+1) m eo ec:=VHas.grown (VHas.grown vM ga (fun e=>by have:=Option.some.inj e;omega)) gb (fun e=>by have:=Option.some.inj e;omega);have vRb:NdB Wb (w.heap.size+1+1) nd0 ns0:=VHas.grown (VHas.grown vR ga (fun e=>by have:=Option.some.inj e;omega)) gb (fun e=>by have:=Option.some.inj e;omega);have hNb:=GOwn.gr (GOwn.gr hN0 ga (ndT vA) (by decide)) gb (ndT va) (by decide);have hEb:=(hEn.gr ga (ndT vA) (by decide)).gr gb (ndT va) (by decide);have hCb:=(hC.box ga nl).box gb nl;have hO2:NdO Wb base (⟨n.id,n.peers,m.term,-1,n.log,n.role,n.commit,n.votes,n.next,n.mat⟩:Nd) s:=⟨hOb.l,hOb.v,hOb.x,hOb.m,hOb.vx,hOb.vm,hOb.xm⟩
   clear hO vM vR hN0 hEn hC ga vA va hOb;refine (specFollow_any (⟨n.id,n.peers,m.term,-1,n.log,n.role,n.commit,n.votes,n.next,n.mat⟩:Nd) s w.heap.size base _ (Nat.le_trans hbs hCb.size) vb hO2).mono ?_;rintro e w2 ⟨rfl,s2,vA,hO,gA⟩;have eU:folN (⟨n.id,n.peers,m.term,-1,n.log,n.role,n.commit,n.votes,n.next,n.mat⟩:Nd)=(upN n m.term):=rfl;rw[eU]at vA hO;have vM:MsB w2 (w.heap.size+1) m eo ec:=VHas.grown vMb gA (fun e=>by have:=Option.some.inj e;omega);have vR:NdB w2 (w.heap.size+1+1) nd0 ns0:=VHas.grown vRb gA (fun e=>by have:=Option.some.inj e;omega);have hN0:=GOwn.gr hNb gA (ndT vb) (by decide);have hEn:=hEb.gr gA (ndT vb) (by decide);have hC:=hCb.box gA nl;have hzU:=nkR_zO (nkR_up hB hmt) hO hz.l hz.tx (by simp[upN]) (by simp[upN]) (by simp[upN]);clear vMb vRb hNb hEb hCb hO2 vb gb gA hup eU;go_wp2
   go_meet
   case rel=>exact⟨(upN n m.term),s2,vA,vM,vR,hO,hN0,hC,hEn,hrc,nkR_up hB hmt,hzU,rfl⟩
  ·go_wp2
   go_meet
   case rel=>exact⟨n,s,vA,vM,vR,hO,hN0,hC,hEn,if_neg (by omega),nkR_of hB,hz,rfl⟩
 case rest=>
  clear vA vM vR hO hN0 hC hEn hwsz f0 f1 f2 f3 f4 f5 f6 f7 f8 f9 g0 g1 g2 g3 g4 g5 g6 g7 g8;obtain⟨N,s2,vA,vM,vR,hO,hN0,hC,hEn,hrc,hBN,hzN,hNp⟩:=hcut;have hwsz:w.heap.size+1+1<wc.heap.size:=vR.lt;replace hrc:Hid (rc1 n m=N):=hrc;replace hBN:Hid (NkR N):=hBN;replace hNp:Hid (N.peers=n.peers):=hNp;obtain⟨lo,lc,vo,vc,no,nc,mo,mc⟩:=s2;obtain⟨f0,f1,f2,f3,f4,f5,f6,f7,f8,f9⟩:=cN vA;obtain⟨g0,g1,g2,g3,g4,g5,g6,g7,g8⟩:=cM vM;have hal:=RB.alloc wc (.cells (msL ms0 none 0).toArray 29);have h0:RS w base wc.heap.size e0 N ⟨lo,lc,vo,vc,no,nc,mo,mc⟩ m eo ec ms0 (wc.alloc (.cells (msL ms0 none 0).toArray 29)):=⟨VHas.next vA hal,VHas.next vM hal,VHas.next vR hal,msB_new wc ms0 none 0,hO.next hal,GOwn.next hN0 hal,hC.trans (Ch.of_rb hal),vR.lt,(GOwn.at hN0 rfl).2⟩
  replace hEn:=hEn.next hal;clear hal vA vM vR hN0 hC hO
  go_upto_if 48 with (first|((with_reducible refine wB 29 (.tmp 8) (.tmp 45) wc.heap.size (msL (⟨0,N.term,N.id,m.frm,0,0,[],0,false⟩:Ms) none 0) h0.q ?_);intro W2 vQ2 gQ;have h1:RS w base wc.heap.size e0 N ⟨lo,lc,vo,vc,no,nc,mo,mc⟩ m eo ec (⟨0,N.term,N.id,m.frm,0,0,[],0,false⟩:Ms) W2:=h0.putQ vQ2 gQ;have hEn1:=hEn.gr gQ (fun x e=>by cases e;exact h0.q.typed) (by decide);clear f0 f1 f2 f3 f4 f5 f6 f7 f8 f9 g0 g1 g2 g3 g4 g5 g6 g7 g8 gQ vQ2;obtain⟨f0,f1,f2,f3,f4,f5,f6,f7,f8,f9⟩:=cN h1.a;obtain⟨g0,g1,g2,g3,g4,g5,g6,g7,g8⟩:=cM h1.m)|fail)
  generalize wc.heap.size=qb at h1 hwsz ⊢;clear h0 hEn
  have k1:(m.kind==1)=false:=by rw[hk.out];rfl
  have k2:(m.kind==2)=true:=by rw[hk.out];rfl
  by_cases r2:N.role=2
  rotate_left
  ·have r2':(N.role != 2)=true:=by simp[r2]
   have HN:Hid (rkN (rc1 n m) m=N):=by show _ = _;rw[hrc.out];simp[rkN,hk.out,vdN,vdB,r2]
   have HL:Hid (rkL (rc1 n m) m=[]):=by show _ = _;rw[hrc.out];simp[rkL,hk.out,vdL,vdB,r2]
   clear r2
   go_wp2_with (first|((with_reducible refine wB 27 (.tmp 4) (.tmp 101) (w.heap.size+1+1) (ndL (N) (⟨lo,lc,vo,vc,no,nc,mo,mc⟩)) h1.r ?_);intro W9 hv9 hg9)|fail)
   obtain⟨q0,q1,q2,q3,q4,q5,q6,q7,q8,q9⟩:=cN hv9;exact bodyPost_ret (v:=.tuple #[ndV N ⟨lo,lc,vo,vc,no,nc,mo,mc⟩,.slice (some ⟨e0,0,none⟩) 0 0]) (by simp[results,Tryz.results37,go_sem,q0,q1,q2,q3,q4,q5,q6,q7,q8,q9]) rfl (by rw[HN.out,HL.out];exact⟨⟨lo,lc,vo,vc,no,nc,mo,mc⟩,_,rfl,h1.o.gr hg9 (ndT h1.r) (by decide) (by decide),netV_z (GOwn.gr h1.z hg9 (ndT h1.r) (by decide)),h1.c.box hg9 (by omega)⟩)
  have r2':(N.role != 2)=false:=by simp[r2]
  by_cases b1:m.term=N.term
  rotate_left
  ·have b1':(m.term != N.term)=true:=by simp[b1]
   have HN:Hid (rkN (rc1 n m) m=N):=by show _ = _;rw[hrc.out];simp[rkN,hk.out,vdN,vdB,r2,b1]
   have HL:Hid (rkL (rc1 n m) m=[]):=by show _ = _;rw[hrc.out];simp[rkL,hk.out,vdL,vdB,r2,b1]
   clear r2 b1
   go_wp2_with (first|((with_reducible refine wB 27 (.tmp 4) (.tmp 101) (w.heap.size+1+1) (ndL (N) (⟨lo,lc,vo,vc,no,nc,mo,mc⟩)) h1.r ?_);intro W9 hv9 hg9)|fail)
   obtain⟨q0,q1,q2,q3,q4,q5,q6,q7,q8,q9⟩:=cN hv9;exact bodyPost_ret (v:=.tuple #[ndV N ⟨lo,lc,vo,vc,no,nc,mo,mc⟩,.slice (some ⟨e0,0,none⟩) 0 0]) (by simp[results,Tryz.results37,go_sem,q0,q1,q2,q3,q4,q5,q6,q7,q8,q9]) rfl (by rw[HN.out,HL.out];exact⟨⟨lo,lc,vo,vc,no,nc,mo,mc⟩,_,rfl,h1.o.gr hg9 (ndT h1.r) (by decide) (by decide),netV_z (GOwn.gr h1.z hg9 (ndT h1.r) (by decide)),h1.c.box hg9 (by omega)⟩)
  have b1':(m.term != N.term)=false:=by simp[b1]
  rcases Bool.eq_false_or_eq_true m.yes with hy|hy
  rotate_left
  ·skip
   have HN:Hid (rkN (rc1 n m) m=N):=by show _ = _;rw[hrc.out];simp[rkN,hk.out,vdN,vdB,r2,b1,hy]
   have HL:Hid (rkL (rc1 n m) m=[]):=by show _ = _;rw[hrc.out];simp[rkL,hk.out,vdL,vdB,r2,b1,hy]
   clear r2 b1
   go_wp2_with (first|((with_reducible refine wB 27 (.tmp 4) (.tmp 101) (w.heap.size+1+1) (ndL (N) (⟨lo,lc,vo,vc,no,nc,mo,mc⟩)) h1.r ?_);intro W9 hv9 hg9)|fail)
   obtain⟨q0,q1,q2,q3,q4,q5,q6,q7,q8,q9⟩:=cN hv9;exact bodyPost_ret (v:=.tuple #[ndV N ⟨lo,lc,vo,vc,no,nc,mo,mc⟩,.slice (some ⟨e0,0,none⟩) 0 0]) (by simp[results,Tryz.results37,go_sem,q0,q1,q2,q3,q4,q5,q6,q7,q8,q9]) rfl (by rw[HN.out,HL.out];exact⟨⟨lo,lc,vo,vc,no,nc,mo,mc⟩,_,rfl,h1.o.gr hg9 (ndT h1.r) (by decide) (by decide),netV_z (GOwn.gr h1.z hg9 (ndT h1.r) (by decide)),h1.c.box hg9 (by omega)⟩)
  have HA:Hid (rkN (rc1 n m) m=if majB N.peers (vsL N.peers.toNat N.votes m.frm).length=true then ldN (vd1 N m.frm) else (vd1 N m.frm)):=by show _ = _;rw[hrc.out];simp[rkN,hk.out,vdN,vdB,r2,b1,hy]
  have HB:Hid (rkL (rc1 n m) m=if majB N.peers (vsL N.peers.toNat N.votes m.frm).length=true then ldL (vd1 N m.frm) else []):=by show _ = _;rw[hrc.out];simp[rkL,hk.out,vdL,vdB,r2,b1,hy]
  have hb1:Hid (m.term=N.term):=b1;clear b1 r2;have hpp:=hBN.out.p;have hvz:=hzN.v
  go_wp2_with fail
  clear f0 f1 f2 f3 f4 f5 f6 f7 f8 f9 g0 g1 g2 g3 g4 g5 g6 g7 g8;have hal2:=RB.alloc W2 (.cells #[] 2);have hL0:OwI (W2.alloc (.cells #[] 2)) W2.heap.size (some ⟨W2.heap.size,0,none⟩) 0 (vsL 0 N.votes m.frm):=GOwn.empty _ _ _ _;obtain⟨P,hPe⟩:∃ P:Nat,P=N.peers.toNat:=⟨_,rfl⟩
  have hPN:Hid (N.peers=(P:Int)):=by show _ = _;omega
  have hP5:P<=5:=by omega
  rw[<-hPe]at HA HB;clear hPe
  go_loopw [9,10,11,12] (fun x9 x10 x11 x12 wr=>∃ p:Nat,p<=P/\LiV W2.heap.size (vsL p N.votes m.frm) x9 wr/\x10=.int .i64 (p:Int)/\RB W2 wr) (fun _ x _ _ _=>P-(intOf x).toNat)
  case atStart=>exact⟨0,Nat.zero_le _,⟨_,_,rfl,hL0⟩,rfl,hal2⟩
  case round=>
   clear hL0 hal2;obtain⟨p,hpP,⟨ao,cap,rfl,hO⟩,rfl,hR⟩:=hrel;have h3:=RS.next h1 hR;obtain⟨f0,f1,f2,f3,f4,f5,f6,f7,f8,f9⟩:=cN h3.a;obtain⟨g0,g1,g2,g3,g4,g5,g6,g7,g8⟩:=cM h3.m;have hLl:(vsL p N.votes m.frm).length<=5:=Nat.le_trans (vsL_len _ _ _) (by omega)
   by_cases hlt:p<P
   ·have hltp:(p:Int)<N.peers:=by have:=hPN.out;omega
    have hst:=vsL_step p N.votes m.frm;generalize (vsL p N.votes m.frm)=l at hO hst hLl ⊢;replace hst:Hid _:=hst;go_wp2;clear f0 f1 f2 f3 f4 f5 f6 f7 f8 f9 g0 g1 g2 g3 g4 g5 g6 g7 g8 hltp
    go_loopw [11,12] (fun x11 x12 wz=>∃ i:Nat,i<=N.votes.length/\x11=.bool (((p:Int)==m.frm)||(N.votes.take i).contains (p:Int))/\x12=.int .i64 (i:Int)/\RB wr wz) (fun _ x _=>N.votes.length-(intOf x).toNat)
    case atStart=>exact⟨0,Nat.zero_le _,by simp,rfl,RB.refl _⟩
    case round=>
     obtain⟨i,hi,rfl,rfl,hR2⟩:=hrel;have h4:=RS.next h3 hR2;have hO4:=OwI.next hO hR2;obtain⟨f0,f1,f2,f3,f4,f5,f6,f7,f8,f9⟩:=cN h4.a;obtain⟨g0,g1,g2,g3,g4,g5,g6,g7,g8⟩:=cM h4.m
     by_cases hlti:i<N.votes.length
     ·have hct:=contains_step (p:=(p:Int)) hlti
      obtain⟨vb,vq,ev,_,hcv⟩:=h4.o.M.v (fun q=>by
       have:=ilc_len N.votes;have q':ilc N.votes=[]:=q;rw[q']at this;simp at this
       omega)
      have ev':vo=some ⟨vb,vq,none⟩:=ev;subst ev';have cv:=hcv _ _ (ilc_at hlti);generalize (N.votes.take i).contains (p:Int)=b2 at hct ⊢;generalize ((p:Int)==m.frm)=b3;generalize iOf N.votes i=x at cv hct;have hlti':(i:Int)<(N.votes.length:Int):=by omega
      have hi0:(0:Int)<=(i:Int):=by omega
      have hwi:IntKind.i64.wrap ((i:Int)+1)=(i:Int)+1:=by rw[IntKind.wrap_i64];omega
      replace hct:Hid _:=hct;cases b3
      ·cases b2
       ·rw[Bool.or_false]
        go_wp2
        go_roundw
        case rel=>exact⟨i+1,by omega,by rw[hct.out];simp,by go_num,hR2⟩
        case measure=>simp[intOf];omega
       ·rw[Bool.or_true]
        go_wp2
        go_roundw
        case rel=>exact⟨i+1,by omega,by rw[hct.out];simp,by go_num,hR2⟩
        case measure=>simp[intOf];omega
      ·rw[Bool.true_or]
       go_wp2
       go_roundw
       case rel=>exact⟨i+1,by omega,by simp,by go_num,hR2⟩
       case measure=>simp[intOf];omega
     have hii:i=N.votes.length:=by omega
     have hge:¬ ((i:Int)<(N.votes.length:Int)):=by omega
     rw[hii,List.take_length,<-hii];have hwp:IntKind.i64.wrap ((p:Int)+1)=(p:Int)+1:=by rw[IntKind.wrap_i64];omega
     have hR24:=RB.trans _ _ _ hR hR2;generalize (((p:Int)==m.frm)||N.votes.contains (p:Int))=b5 at hst ⊢;cases b5
     ·go_wp2
      go_roundw
      case rel=>
       have hli:LiV W2.heap.size (vsL (p+1) N.votes m.frm) (.slice ao l.length cap) wr:=⟨ao,cap,by rw[hst.out];simp,by rw[hst.out];simpa using hO4⟩
       first
       | exact⟨p+1,by omega,hli,by go_num,hR24⟩
       | exact⟨p+1,by omega,hli,by go_num⟩
      case measure=>simp[intOf];omega
     ·have hal5:=RB.alloc wr (.cells #[.int .i64 (p:Int)] 2)
      have hO5:GOwn (wr.alloc (.cells #[.int .i64 (p:Int)] 2)) W2.heap.size 2 1 ao l.length cap (lf (ilc l)):=hO4.next hal5;have hR5:=RB.trans _ _ _ hR24 hal5;have hsz5:W2.heap.size<=(wr.alloc (.cells #[.int .i64 (p:Int)] 2)).heap.size:=hR5.size;have hl5:l.length+1<=100000000:=by omega
      go_wp2_with (first|(at_builtin;with_reducible refine wpList_appR rfl (.tmp 132) (.tmp 134) Tryz.elIQ rfl 135 rfl W2.heap.size _ ao l.length cap (by simp[go_sem]) hO5 (some ⟨wr.heap.size,0,none⟩) 1 1 (fun _=>.int .i64 (p:Int)) (by simp[go_sem]) (row_one wr (p:Int)) (fun _ _=>rfl) hl5 hsz5 ?_;intro ao' cap' w5 hown hg5)|fail)
      go_roundw
      case rel=>exact⟨p+1,by omega,⟨ao',cap',by rw[hst.out];simp,by rw[hst.out];exact OwI.snoc hown⟩,by go_num,rb_row hR5 hg5 (fun x e=>(GOwn.at hO5 e).1)⟩
      case measure=>simp[intOf];omega
   obtain rfl:p=P:=by omega
   have hge:¬ ((p:Int)<N.peers):=by have:=hPN.out;omega
   have hvd:(vd1 N m.frm).votes=(vsL p N.votes m.frm):=by have:=hPN.out;simp[vd1,this]
   have hbB:=hO.from (Nat.le_trans hbs h1.c.size)
   have hne:=blk_vo (Nat.le_trans hbs h1.c.size) h1.o.x hO;have hne2:=blk_vo (Nat.le_trans hbs h1.c.size) h1.o.m hO;generalize hlE:(vsL p N.votes m.frm)=l at hO hLl hvd hbB hne hne2 HA HB ⊢
   have HV:Hid ((⟨N.id,N.peers,N.term,N.vote,N.log,N.role,N.commit,l,N.next,N.mat⟩:Nd)=(vd1 N m.frm)):=by
    show _ = _
    rw[<-hvd];rfl
   clear hlE hvd;generalize (vd1 N m.frm)=V at HV HA HB;replace HV:=HV.out;subst HV;have hz7:NdZ (⟨N.id,N.peers,N.term,N.vote,N.log,N.role,N.commit,l,N.next,N.mat⟩:Nd) ⟨lo,lc,ao,cap,no,nc,mo,mc⟩:=⟨hzN.l,by show l.length<=1048576;omega,hzN.x,hzN.m,hzN.lc,GOwn.cap hO,hzN.xc,hzN.mc,hzN.tx⟩
   have hi7:=hBN.out.i;have hc7:=hBN.out.c.1;have ht7:0<N.term:=by have:=hb1.out;omega
   go_wp2_with (first|((with_reducible refine wN 25 (.tmp 137) (.tmp 136) (w.heap.size) 7 (.slice ao l.length cap) ((⟨N.id,N.peers,N.term,N.vote,N.log,N.role,N.commit,l,N.next,N.mat⟩:Nd)) (⟨lo,lc,ao,cap,no,nc,mo,mc⟩) h3.a ?_);intro W5 v5 gA5;have o5:=h3.o.gr gA5 (ndT h3.a) (by decide) (by decide);have h5:RS w base qb e0 (⟨N.id,N.peers,N.term,N.vote,N.log,N.role,N.commit,l,N.next,N.mat⟩:Nd) ⟨lo,lc,ao,cap,no,nc,mo,mc⟩ m eo ec (⟨0,N.term,N.id,m.frm,0,0,[],0,false⟩:Ms) W5:=h3.putA v5 ⟨o5.l,hbB.gr gA5 (ndT h3.a) (by decide),o5.x,o5.m,fun z e q=>hne z q e,fun z e q=>hne2 z q e,o5.xm⟩ gA5;clear f0 f1 f2 f3 f4 f5 f6 f7 f8 f9 g0 g1 g2 g3 g4 g5 g6 g7 g8 gA5 v5 o5;obtain⟨f0,f1,f2,f3,f4,f5,f6,f7,f8,f9⟩:=cN h5.a;obtain⟨g0,g1,g2,g3,g4,g5,g6,g7,g8⟩:=cM h5.m)|fail)
   clear f0 f1 f2 f3 f4 f5 f6 f7 f8 f9 g0 g1 g2 g3 g4 g5 g6 g7 g8;refine (specMajority_any (⟨N.id,N.peers,N.term,N.vote,N.log,N.role,N.commit,l,N.next,N.mat⟩:Nd) ⟨lo,lc,ao,cap,no,nc,mo,mc⟩ (by show l.length<=1048576;omega) _).mono ?_;rintro e w6 ⟨rfl,hb6⟩;have h6:=RS.next h5 hb6;obtain⟨f0,f1,f2,f3,f4,f5,f6,f7,f8,f9⟩:=cN h6.a;obtain⟨g0,g1,g2,g3,g4,g5,g6,g7,g8⟩:=cM h6.m;rcases Bool.eq_false_or_eq_true (majB N.peers l.length) with b7|b7
   rotate_left
   ·rw[if_neg (by rw[b7];simp)]at HA HB
    have b7':majB (⟨N.id,N.peers,N.term,N.vote,N.log,N.role,N.commit,l,N.next,N.mat⟩:Nd).peers (⟨N.id,N.peers,N.term,N.vote,N.log,N.role,N.commit,l,N.next,N.mat⟩:Nd).votes.length=false:=b7;rw[b7'];clear b7 b7'
    go_wp2_with (first|((with_reducible refine wB 27 (.tmp 4) (.tmp 308) (w.heap.size+1+1) (ndL ((⟨N.id,N.peers,N.term,N.vote,N.log,N.role,N.commit,l,N.next,N.mat⟩:Nd)) (⟨lo,lc,ao,cap,no,nc,mo,mc⟩)) h6.r ?_);intro W9 hv9 hg9)|fail)
    obtain⟨q0,q1,q2,q3,q4,q5,q6,q7,q8,q9⟩:=cN hv9;exact bodyPost_ret (v:=.tuple #[ndV (⟨N.id,N.peers,N.term,N.vote,N.log,N.role,N.commit,l,N.next,N.mat⟩:Nd) ⟨lo,lc,ao,cap,no,nc,mo,mc⟩,.slice (some ⟨e0,0,none⟩) 0 0]) (by simp[results,Tryz.results37,go_sem,q0,q1,q2,q3,q4,q5,q6,q7,q8,q9]) rfl (by rw[HA.out,HB.out];exact⟨⟨lo,lc,ao,cap,no,nc,mo,mc⟩,_,rfl,h6.o.gr hg9 (ndT h6.r) (by decide) (by decide),netV_z (GOwn.gr h6.z hg9 (ndT h6.r) (by decide)),h6.c.box hg9 (by omega)⟩)
   rw[if_pos b7]at HA HB;have b7':majB (⟨N.id,N.peers,N.term,N.vote,N.log,N.role,N.commit,l,N.next,N.mat⟩:Nd).peers (⟨N.id,N.peers,N.term,N.vote,N.log,N.role,N.commit,l,N.next,N.mat⟩:Nd).votes.length=true:=b7;rw[b7'];clear b7 b7'
   go_wp2_with fail
   clear f0 f1 f2 f3 f4 f5 f6 f7 f8 f9 g0 g1 g2 g3 g4 g5 g6 g7 g8;refine (specLead_any (⟨N.id,N.peers,N.term,N.vote,N.log,N.role,N.commit,l,N.next,N.mat⟩:Nd) ⟨lo,lc,ao,cap,no,nc,mo,mc⟩ hz7 w.heap.size base hpp hi7 hc7 ht7 _ (Nat.le_trans hbs h6.c.size) h6.a h6.o).mono ?_;rintro e w7 ⟨v,s7,rfl,vB,o7,nv,g7⟩
   have h7c:Ch base w w7:=h6.c.g2 g7 nl (fun k e=>by
    have e':blk lo=some k:=e;have hx:=GOwn.at h6.o.l (x:=k) (by rw[ownBlk_eq];exact e')
    exact⟨hx.1,GOwn.typed h6.o.l (x:=k) (by rw[ownBlk_eq];exact e')⟩)
   have vR7:NdB w7 (w.heap.size+1+1) nd0 ns0:=VHas.g2 h6.r g7 (by omega) (fun q=>by
    have e':blk lo=some (w.heap.size+1+1):=q
    exact typed_ne h6.r.typed (GOwn.typed h6.o.l (x:=w.heap.size+1+1) (by rw[ownBlk_eq];exact e')) (by decide) rfl)
   have nv7:=NetV.from nv h6.c.size
   clear g7 nv h6 h5 h3 h1 hz7 hO hbB hne hne2;obtain⟨lo7,lc7,vo7,vc7,no7,nc7,mo7,mc7⟩:=s7;generalize ldN (⟨N.id,N.peers,N.term,N.vote,N.log,N.role,N.commit,l,N.next,N.mat⟩:Nd)=M at vB o7 HA;obtain⟨f0,f1,f2,f3,f4,f5,f6,f7,f8,f9⟩:=cN vB
   go_wp2_with (first|((with_reducible refine wB 27 (.tmp 4) (.tmp 141) (w.heap.size+1+1) (ndL (M) (⟨lo7,lc7,vo7,vc7,no7,nc7,mo7,mc7⟩)) vR7 ?_);intro W9 hv9 hg9)|fail)
   obtain⟨q0,q1,q2,q3,q4,q5,q6,q7,q8,q9⟩:=cN hv9;exact bodyPost_ret (v:=.tuple #[ndV M ⟨lo7,lc7,vo7,vc7,no7,nc7,mo7,mc7⟩,v]) (by simp[results,Tryz.results37,go_sem,q0,q1,q2,q3,q4,q5,q6,q7,q8,q9]) rfl (by rw[HA.out,HB.out];exact⟨_,_,rfl,o7.gr hg9 (ndT vR7) (by decide) (by decide),NetV.gr nv7 hg9 vR7.typed,h7c.box hg9 (by omega)⟩)
theorem specMerge_N (N:Nd) (lo:Option Addr) (lc:Nat) (m:Ms) (eo:Option Addr) (ec:Nat) (hl:N.log.length<=1048576) (hc:N.log.length<=lc) (hX:∀ k,k<N.log.length->(xOf N.log k).size<=1048576) (hmz:MsZ m) (hec:m.ents.length<=ec) (w:World) (hr:LRow w 47 lo (elc N.log)) (hs:LRow w 47 eo (elc m.ents)):
  Calls Tryz.prog 82 #[.slice lo N.log.length lc,.int .i64 m.index,.slice eo m.ents.length ec] w fun e w'=>∃ ao cap,e=.returned (.tuple #[.slice ao (mgL (folN N) m).length cap,.bool (mgO (folN N) m)])/\(mgL (folN N) m).length<=cap/\(mgO (folN N) m=true->OwE w' w.heap.size ao cap (mgL (folN N) m))/\RB w w':=by
 refine (specMerge_own lo N.log.length lc (tOf N.log) (xOf N.log) m.index eo m.ents.length ec (tOf m.ents) (xOf m.ents) hl hc hmz.l hec hX hmz.x w hr.n hs.n).mono ?_;rintro e w' ⟨ao,cap,rfl,h1,h2,h3⟩;have hlen:(mgL (folN N) m).length=mLen N.log.length (tOf N.log) (xOf N.log) m.index m.ents.length (tOf m.ents) (xOf m.ents):=lstE_len _ _ _;refine⟨ao,cap,by rw[hlen];rfl,by rw[hlen];exact h1,fun q=>?_,h3⟩;have:=h2 q
 show GOwn w' w.heap.size 47 2 ao (mgL (folN N) m).length cap (lf (elc (mgL (folN N) m)))
 rw[hlen];exact GOwn.congr this (fun j hj=>(lstE_lf _ _ _ j hj).symm)
def agP (a b:List En) (k:Nat):Bool:=decide (k<=a.length)&&eqL (a.take k) (b.take k)
theorem agP_zero (a b:List En):agP a b 0=true:=by simp[agP,eqL]
theorem enOf {a:List En} {k:Nat} (h:k<a.length):a[k]=⟨tOf a k,xOf a k⟩:=by simp[tOf,xOf,h]
theorem agP_step {a b:List En} {k:Nat} (h:k<b.length):agP a b (k+1)=(agP a b k&&(decide (k<a.length)&&decide (tOf a k=tOf b k/\xOf a k=xOf b k))):=by
 rw[Bool.eq_iff_iff];simp only[agP,Bool.and_eq_true,decide_eq_true_eq,eqL_iff];constructor
 ·rintro⟨h1,h2⟩
  rw[List.take_succ_eq_append_getElem (by omega),List.take_succ_eq_append_getElem h]at h2;have h3:=List.append_inj h2 (by simp;omega);have h4:a[k]=b[k]:=by simpa using h3.2
  rw[enOf (by omega),enOf h]at h4;have h5:=En.mk.inj h4;exact⟨⟨by omega,h3.1⟩,by omega,h5.1,h5.2⟩
 ·rintro⟨⟨h1,h2⟩,h3,h4,h5⟩
  refine⟨by omega,?_⟩;rw[List.take_succ_eq_append_getElem h3,List.take_succ_eq_append_getElem h,h2,enOf h3,enOf h,h4,h5]
theorem agP_stop {a b:List En}:∀ {j k:Nat},k<=j->j<=b.length->agP a b k=false->agP a b j=false
 | 0,k,h,_,h2=>by
  have:k=0:=by omega
  subst this;exact h2
 | j+1,k,h,hj,h2=>by
  by_cases q:k=j+1
  ·subst q;exact h2
  ·rw[agP_step (by omega),agP_stop (by omega) (by omega) h2]
   rfl
theorem mgF_is {N:Nd} {m:Ms} (hl:logL N.log=true) (hc:0<=N.commit/\N.commit<=N.log.length) (b4:fitB N.log.length (tOf N.log) m.index m.lterm=true):mgF (folN N) m=(mgO (folN N) m&&agP (mgL (folN N) m) N.log N.commit.toNat):=by
 have e1:mgF (folN N) m=((logL N.log&&fitB N.log.length (tOf N.log) m.index m.lterm)&&(mgO (folN N) m&&(decide (N.commit<=(mgL (folN N) m).length)&&eqL ((mgL (folN N) m).take N.commit.toNat) (N.log.take N.commit.toNat)))):=rfl
 have e2:decide (N.commit<=((mgL (folN N) m).length:Int))=decide (N.commit.toNat<=(mgL (folN N) m).length):=by
  congr 1
  apply propext;omega
 rw[e1,hl,b4,e2];rfl
theorem ba_ne {x y:ByteArray} (h:¬ x=y):(x.toList==y.toList)=false:=by
 rw[ByteArray.toList_eq,ByteArray.toList_eq]
 have:¬ x.data.toList=y.data.toList:=fun q=>h (by
  have:=Array.ext' q;rcases x with ⟨d⟩
  rcases y with ⟨d'⟩
  simp at this
  rw[this])
 simpa using this
theorem exec_eqE {o:Oper} {ev:Operand->Value} {x y:Operand} {t1 t2:Int} {x1 x2:ByteArray} {W:World} (ho:o.op=.binOp .eql 47 x y 47) (hx:ev x=.agg #[.int .i64 t1,.string x1]) (hy:ev y=.agg #[.int .i64 t2,.string x2]):
  (execOp ev o).run Tryz.prog W=.ok (.value (.bool (decide (t1=t2/\x1=x2)))) W:=by
 unfold execOp
 by_cases h1:t1=t2
 ·subst h1
  by_cases h2:x1=x2
  ·subst h2
   simp[ho,hx,hy,go_sem]
  ·have:=ba_ne h2
   simp[ho,hx,hy,go_sem,this,h2]
 ·simp[ho,hx,hy,go_sem,h1]
end
end Go.Proofs.YtbabakgjkloabaaGreatDoor
