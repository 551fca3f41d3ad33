/-
  Helpers: Sn7, Ms6, Sn8, Sn9.
-/
import Derived.Test.YtbabakgjkloabaaGreatDoorPack2
import Derived.Test.YtbabakgjkloabaaGreatDoorPack8
import Derived.Test.YtbabakgjkloabaaGreatDoorPack15
import Derived.Test.YtbabakgjkloabaaGreatDoorPack10
import Derived.Test.YtbabakgjkloabaaGreatDoorPack13
import Derived.Test.YtbabakgjkloabaaGreatDoorPack12
import Derived.Test.YtbabakgjkloabaaGreatDoorPack6
set_option linter.unusedVariables false
set_option linter.unusedSimpArgs false
namespace Go.Proofs.YtbabakgjkloabaaGreatDoor
section
open Go Go.RowKit
attribute [local go_sem ↓] Go.wp_at_zero Go.wp_at_succ
def tsN (n:Nd):Nd:=if nodeR n=true then tmN n else nd0
def tsL (n:Nd):List Ms:=if nodeR n=true then tmL n else []
def NoA (n:Nd) (l:List Ms) (w w':World) (e:Ending):Prop:=∃ s v,e=.returned (.tuple #[ndV n s,v])/\NdO w' w.heap.size n s/\NetV w.heap.size l v w'/\RB w w'
theorem netV_new (w W:World) (h:w.heap.size<=W.heap.size):NetV w.heap.size [] (.slice (some ⟨W.heap.size,0,none⟩) 0 0) (W.alloc (.cells #[] 29)):=
 ⟨_,_,[],rfl,rfl,GOwn.from (GOwn.empty W 29 9 _) h,fun q hq=>by cases hq⟩
set_option maxRecDepth 100000 in
set_option maxHeartbeats 16000000 in
theorem specTimeout_any (n:Nd) (s:NdS) (hz:NdZ n s) (w:World) (hM:NdM w n s):Calls Tryz.prog 15 #[ndV n s] w fun e w'=>NoA (tsN n) (tsL n) w w' e:=by
 have hb:=RB.trans _ _ _ (RB.alloc w (.cells (ndL n s).toArray 27)) (RB.alloc _ (.cells (ndL nd0 ns0).toArray 27));have vA:NdB _ w.heap.size n s:=(ndB_new w n s).next (RB.alloc _ (.cells (ndL nd0 ns0).toArray 27));have vR:=ndB_new (w.alloc (.cells (ndL n s).toArray 27)) nd0 ns0;rw[World.size_alloc]at vR;have HM:Hid (∀ W,RB w W->NdM W n s):=fun W h=>hM.next h
 clear hM;go_enter Tryz.func15,Tryz.ntmps15;refine wp_seq_h' fun K0 hK0=>?_
 go_wp2;refine hK0.out _ _ ?_;clear hK0;generalize ((w.alloc _).alloc _)=W at hb vA vR ⊢;have hal:=RB.alloc W (.cells #[] 29);have hN0:=netV_new w W hb.size;replace hb:=RB.trans _ _ _ hb hal;replace vA:NdB (W.alloc (.cells #[] 29)) w.heap.size n s:=VHas.next vA hal;replace vR:NdB (W.alloc (.cells #[] 29)) (w.heap.size+1) nd0 ns0:=VHas.next vR hal;clear hal;obtain⟨c0,c1,c2,c3,c4,c5,c6,c7,c8,c9⟩:=cN vA
 go_wp2_with fail
 generalize hWb:W.heap.size=e0 at hN0 ⊢;clear hWb;generalize (W.alloc _)=W1 at hN0 hb vA vR c0 c1 c2 c3 c4 c5 c6 c7 c8 c9 ⊢;refine (specNodeOk_any n s hz _ (HM.out _ hb)).mono ?_;rintro e w1 ⟨rfl,hb1⟩;replace hb:=RB.trans _ _ _ hb hb1;replace vA:NdB w1 w.heap.size n s:=VHas.next vA hb1;replace vR:NdB w1 (w.heap.size+1) nd0 ns0:=VHas.next vR hb1;replace hN0:NetV w.heap.size [] (.slice (some ⟨e0,0,none⟩) 0 0) w1:=NetV.rb _ _ _ hN0 hb1;clear hb1 c0 c1 c2 c3 c4 c5 c6 c7 c8 c9;obtain⟨c0,c1,c2,c3,c4,c5,c6,c7,c8,c9⟩:=cN vA;rcases Bool.eq_false_or_eq_true (nodeR n) with hB|hB
 rotate_left
 ·rw[hB]
  have HN:Hid (tsN n=nd0):=by show _ = _;simp[tsN,hB]
  have HL:Hid (tsL n=[]):=by show _ = _;simp[tsL,hB]
  clear hB
  go_wp2_with (first|((with_reducible refine wB 27 (.tmp 2) (.tmp 11) (w.heap.size+1) (ndL (nd0) (ns0)) vR ?_);intro W9 hv9 hg9)|fail)
  obtain⟨q0,q1,q2,q3,q4,q5,q6,q7,q8,q9⟩:=cN hv9;exact bodyPost_ret (v:=.tuple #[ndV nd0 ns0,.slice (some ⟨e0,0,none⟩) 0 0]) (by simp[results,Tryz.results15,go_sem,q0,q1,q2,q3,q4,q5,q6,q7,q8,q9]) rfl (by rw[HN.out,HL.out];exact⟨ns0,_,rfl,ndO_zero _ _,NetV.gr hN0 hg9 vR.typed,gr_rb hb hg9 (by omega)⟩)
 rw[hB];have hBB:=nodeR_B hB;have hpe:=nodeB_peers hBB
 have hte:0<=n.term/\n.term<=100000:=by
  simp[nodeB]at hBB;omega
 have hco:0<=n.commit:=by
  simp[nodeB]at hBB;omega
 have HN0:Hid (tsN n=if tmB n=true then n else if majB n.peers 1=true then ldN (stN n) else stN n):=by show _ = _;simp[tsN,tmN,hB,hBB]
 have HL0:Hid (tsL n=if tmB n=true then [] else if majB n.peers 1=true then ldL (stN n) else othL n.id (fun k=>voteM (stN n) (k:Int)) n.peers.toNat):=by show _ = _;simp[tsL,tmL,hB,hBB]
 clear hB hBB
 go_wp2_with fail
 clear c0 c1 c2 c3 c4 c5 c6 c7 c8 c9;refine (specCopy_any n s hz _ (HM.out _ hb)).mono ?_;rintro e w2 ⟨s2,rfl,hO,hb2⟩;have hbase:w1.heap.size<=w2.heap.size:=hb2.size;have hw1s:w.heap.size+1<w1.heap.size:=vR.lt;replace hb:=RB.trans _ _ _ hb hb2;replace vA:NdB w2 w.heap.size n s:=VHas.next vA hb2;replace vR:NdB w2 (w.heap.size+1) nd0 ns0:=VHas.next vR hb2;replace hN0:NetV w.heap.size [] (.slice (some ⟨e0,0,none⟩) 0 0) w2:=NetV.rb _ _ _ hN0 hb2;clear hb2;have hal:=RB.alloc w2 (.cells (ndL nd0 ns0).toArray 27);have vO:=ndB_new w2 nd0 ns0;replace hO:=hO.next hal;replace hb:=RB.trans _ _ _ hb hal;replace vA:NdB _ w.heap.size n s:=VHas.next vA hal;replace vR:NdB _ (w.heap.size+1) nd0 ns0:=VHas.next vR hal;replace hN0:NetV w.heap.size [] (.slice (some ⟨e0,0,none⟩) 0 0) _:=NetV.rb _ _ _ hN0 hal;clear hal
 by_cases hx:n.role=3
 ·have hst:tmB n=true:=by simp[tmB,hx]
  have HN:Hid (tsN n=n):=by show _ = _;rw[HN0.out,hst];rfl
  have HL:Hid (tsL n=[]):=by show _ = _;rw[HL0.out,hst];rfl
  have hr':(n.role==3)=true:=by simp[hx]
  clear hst hx
  go_wp2_with (first|((with_reducible refine wB 27 (.tmp 5) (.tmp 14) (w2.heap.size) (ndL (n) (s2)) vO ?_);intro Wo vO0 go1;have vO1:NdB Wo w2.heap.size n s2:=vO0;clear vO0;have vA1:NdB Wo w.heap.size n s:=VHas.grown vA go1 (fun e=>by have:=Option.some.inj e;omega);have vR1:NdB Wo (w.heap.size+1) nd0 ns0:=VHas.grown vR go1 (fun e=>by have:=Option.some.inj e;omega);obtain⟨c0,c1,c2,c3,c4,c5,c6,c7,c8,c9⟩:=cN vA1;obtain⟨f0,f1,f2,f3,f4,f5,f6,f7,f8,f9⟩:=cN vO1)|((with_reducible refine wB 27 (.tmp 2) (.tmp 23) (w.heap.size+1) (ndL (n) (s2)) vR1 ?_);intro W9 hv9 hg9)|fail)
  obtain⟨q0,q1,q2,q3,q4,q5,q6,q7,q8,q9⟩:=cN hv9;exact bodyPost_ret (v:=.tuple #[ndV n s2,.slice (some ⟨e0,0,none⟩) 0 0]) (by simp[results,Tryz.results15,go_sem,q0,q1,q2,q3,q4,q5,q6,q7,q8,q9]) rfl (by rw[HN.out,HL.out];exact⟨s2,_,rfl,((hO.gr go1 (ndT vO) (by decide) (by decide)).gr hg9 (ndT vR1) (by decide) (by decide)).from (by omega),NetV.gr (NetV.gr hN0 go1 vO.typed) hg9 vR1.typed,gr_rb (gr_rb hb go1 (by omega)) hg9 (by omega)⟩)
 have hr':(n.role==3)=false:=by simp[hx]
 clear hx
 by_cases hx:n.term=100000
 ·have hst:tmB n=true:=by simp[tmB,hx]
  have HN:Hid (tsN n=n):=by show _ = _;rw[HN0.out,hst];rfl
  have HL:Hid (tsL n=[]):=by show _ = _;rw[HL0.out,hst];rfl
  have ht':(n.term==100000)=true:=by simp[hx]
  clear hst hx
  go_wp2_with (first|((with_reducible refine wB 27 (.tmp 5) (.tmp 14) (w2.heap.size) (ndL (n) (s2)) vO ?_);intro Wo vO0 go1;have vO1:NdB Wo w2.heap.size n s2:=vO0;clear vO0;have vA1:NdB Wo w.heap.size n s:=VHas.grown vA go1 (fun e=>by have:=Option.some.inj e;omega);have vR1:NdB Wo (w.heap.size+1) nd0 ns0:=VHas.grown vR go1 (fun e=>by have:=Option.some.inj e;omega);obtain⟨c0,c1,c2,c3,c4,c5,c6,c7,c8,c9⟩:=cN vA1;obtain⟨f0,f1,f2,f3,f4,f5,f6,f7,f8,f9⟩:=cN vO1)|((with_reducible refine wB 27 (.tmp 2) (.tmp 23) (w.heap.size+1) (ndL (n) (s2)) vR1 ?_);intro W9 hv9 hg9)|fail)
  obtain⟨q0,q1,q2,q3,q4,q5,q6,q7,q8,q9⟩:=cN hv9;exact bodyPost_ret (v:=.tuple #[ndV n s2,.slice (some ⟨e0,0,none⟩) 0 0]) (by simp[results,Tryz.results15,go_sem,q0,q1,q2,q3,q4,q5,q6,q7,q8,q9]) rfl (by rw[HN.out,HL.out];exact⟨s2,_,rfl,((hO.gr go1 (ndT vO) (by decide) (by decide)).gr hg9 (ndT vR1) (by decide) (by decide)).from (by omega),NetV.gr (NetV.gr hN0 go1 vO.typed) hg9 vR1.typed,gr_rb (gr_rb hb go1 (by omega)) hg9 (by omega)⟩)
 have ht':(n.term==100000)=false:=by simp[hx]
 have hst:tmB n=false:=by simp only[tmB,hr',ht',Bool.or_false]
 have HN1:Hid (tsN n=if majB n.peers 1=true then ldN (stN n) else stN n):=by show _ = _;rw[HN0.out,hst];rfl
 have HL1:Hid (tsL n=if majB n.peers 1=true then ldL (stN n) else othL n.id (fun k=>voteM (stN n) (k:Int)) n.peers.toNat):=by show _ = _;rw[HL0.out,hst];rfl
 have hwt:IntKind.i64.wrap (n.term+1)=n.term+1:=by rw[IntKind.wrap_i64];omega
 clear hx hst HN0 HL0
 go_wp2_with (first|((with_reducible refine wB 27 (.tmp 5) (.tmp 14) (w2.heap.size) (ndL (n) (s2)) vO ?_);intro Wo vO0 go1;have vO1:NdB Wo w2.heap.size n s2:=vO0;clear vO0;have vA1:NdB Wo w.heap.size n s:=VHas.grown vA go1 (fun e=>by have:=Option.some.inj e;omega);have vR1:NdB Wo (w.heap.size+1) nd0 ns0:=VHas.grown vR go1 (fun e=>by have:=Option.some.inj e;omega);obtain⟨c0,c1,c2,c3,c4,c5,c6,c7,c8,c9⟩:=cN vA1;obtain⟨f0,f1,f2,f3,f4,f5,f6,f7,f8,f9⟩:=cN vO1)|((with_reducible refine wN 2 (.tmp 28) (.tmp 27) (w2.heap.size) 2 (.int .i64 (n.term+1)) (t1 n) (s2) vO1 ?_);intro Wa va ga;clear f0 f1 f2 f3 f4 f5 f6 f7 f8 f9 c0 c1 c2 c3 c4 c5 c6 c7 c8 c9;have an:NdB Wa w.heap.size n s:=VHas.grown vA1 ga (fun e=>by have:=Option.some.inj e;omega);obtain⟨c0,c1,c2,c3,c4,c5,c6,c7,c8,c9⟩:=cN an;obtain⟨f0,f1,f2,f3,f4,f5,f6,f7,f8,f9⟩:=VHas.c10 va;simp[lf,t1]at f0 f1 f2 f3 f4 f5 f6 f7 f8 f9)|((with_reducible refine wN 2 (.tmp 31) (.tmp 30) (w2.heap.size) 3 (.int .i64 n.id) (t2 n) (s2) va ?_);intro Wb vb gb;clear f0 f1 f2 f3 f4 f5 f6 f7 f8 f9 c0 c1 c2 c3 c4 c5 c6 c7 c8 c9;have bn:NdB Wb w.heap.size n s:=VHas.grown an gb (fun e=>by have:=Option.some.inj e;omega);obtain⟨c0,c1,c2,c3,c4,c5,c6,c7,c8,c9⟩:=cN bn;obtain⟨f0,f1,f2,f3,f4,f5,f6,f7,f8,f9⟩:=VHas.c10 vb;simp[lf,t2]at f0 f1 f2 f3 f4 f5 f6 f7 f8 f9)|((with_reducible refine wN 2 (.tmp 32) (.const (.int .i64 2)) (w2.heap.size) 5 (.int .i64 2) (t3 n) (s2) vb ?_);intro Wc vc gc;clear f0 f1 f2 f3 f4 f5 f6 f7 f8 f9 c0 c1 c2 c3 c4 c5 c6 c7 c8 c9;have cn:NdB Wc w.heap.size n s:=VHas.grown bn gc (fun e=>by have:=Option.some.inj e;omega);obtain⟨c0,c1,c2,c3,c4,c5,c6,c7,c8,c9⟩:=cN cn;obtain⟨f0,f1,f2,f3,f4,f5,f6,f7,f8,f9⟩:=VHas.c10 vc;simp[lf,t3]at f0 f1 f2 f3 f4 f5 f6 f7 f8 f9;have vc2:NdB (Wc.alloc (.cells #[.int .i64 n.id] 2)) w2.heap.size (t3 n) s2:=VHas.next vc (RB.alloc _ _))|((with_reducible refine wN 25 (.tmp 36) (.tmp 35) (w2.heap.size) 7 (.slice (some ⟨Wc.heap.size,0,none⟩) 1 1) (stN n) (⟨s2.lo,s2.lc,some ⟨Wc.heap.size,0,none⟩,1,s2.no,s2.nc,s2.mo,s2.mc⟩) vc2 ?_);intro Wd vd gd;clear f0 f1 f2 f3 f4 f5 f6 f7 f8 f9 c0 c1 c2 c3 c4 c5 c6 c7 c8 c9;obtain⟨f0,f1,f2,f3,f4,f5,f6,f7,f8,f9⟩:=VHas.c10 vd;simp[lf,stN]at f0 f1 f2 f3 f4 f5 f6 f7 f8 f9)|fail)
 have hal2:=RB.alloc Wc (.cells #[.int .i64 n.id] 2);have hs0:w2.heap.size<(w2.alloc (.cells (ndL nd0 ns0).toArray 27)).heap.size:=vO.lt
 have hs1:w2.heap.size+1<=Wo.heap.size:=by
  have h:=go1.size;rw[World.size_alloc]at h;exact h
 have hs2:=ga.size;have hs3:=gb.size;have hs4:=gc.size;have hbd:=gr_rb (RB.trans _ _ _ (gr_rb (gr_rb (gr_rb (gr_rb hb go1 (by omega)) ga (by omega)) gb (by omega)) gc (by omega)) hal2) gd (by omega);have vRd:NdB Wd (w.heap.size+1) nd0 ns0:=VHas.grown (VHas.next (VHas.grown (VHas.grown (VHas.grown vR1 ga (fun e=>by have:=Option.some.inj e;omega)) gb (fun e=>by have:=Option.some.inj e;omega)) gc (fun e=>by have:=Option.some.inj e;omega)) hal2) gd (fun e=>by have:=Option.some.inj e;omega);have vAd:NdB Wd w.heap.size n s:=VHas.grown (VHas.next cn hal2) gd (fun e=>by have:=Option.some.inj e;omega);have hNd:NetV w.heap.size [] (.slice (some ⟨e0,0,none⟩) 0 0) Wd:=NetV.gr (NetV.rb _ _ _ (NetV.gr (NetV.gr (NetV.gr (NetV.gr hN0 go1 vO.typed) ga vO1.typed) gb va.typed) gc vb.typed) hal2) gd vc2.typed;have hOd:=(((((hO.gr go1 (ndT vO) (by decide) (by decide)).gr ga (ndT vO1) (by decide) (by decide)).gr gb (ndT va) (by decide) (by decide)).gr gc (ndT vb) (by decide) (by decide)).next hal2).gr gd (ndT vc2) (by decide) (by decide);have hV0:OwI (Wc.alloc (.cells #[.int .i64 n.id] 2)) Wc.heap.size (some ⟨Wc.heap.size,0,none⟩) 1 [n.id]:=GOwn.lit Wc 2 1 1 [.int .i64 n.id] (by decide) rfl;have hV1:OwI Wd w1.heap.size (some ⟨Wc.heap.size,0,none⟩) 1 [n.id]:=(hV0.gr gd (ndT vc2) (by decide)).from (by omega)
 have hOs:NdO Wd w1.heap.size (stN n) ⟨s2.lo,s2.lc,some ⟨Wc.heap.size,0,none⟩,1,s2.no,s2.nc,s2.mo,s2.mc⟩:=⟨hOd.l,hV1,hOd.x,hOd.m,fun b e q=>by
  have h1:Wc.heap.size=b:=Option.some.inj e;have h2:=(hO.x.at q).2;rw[World.size_alloc]at h2;omega,fun b e q=>by
  have h1:Wc.heap.size=b:=Option.some.inj e;have h2:=(hO.m.at q).2;rw[World.size_alloc]at h2
  omega,hOd.xm⟩
 have hzs:NdZ (stN n) ⟨s2.lo,s2.lc,some ⟨Wc.heap.size,0,none⟩,1,s2.no,s2.nc,s2.mo,s2.mc⟩:=⟨hz.l,by simp[stN],hz.x,hz.m,hOs.K.l,hOs.K.v,hOs.K.x,hOs.K.m,hz.tx⟩
 clear hal2 hs0 hs1 hs2 hs3 hs4 hb vR hOd hV0 hV1 hO ga gb gc gd go1 vO vO1 vA vA1 vR1 va vb vc vc2 an bn cn hN0 f0 f1 f2 f3 f4 f5 f6 f7 f8 f9;refine (specMajority_any (stN n) ⟨s2.lo,s2.lc,some ⟨Wc.heap.size,0,none⟩,1,s2.no,s2.nc,s2.mo,s2.mc⟩ hzs.v _).mono ?_;rintro e w5 ⟨rfl,hb5⟩;have hb:=RB.trans _ _ _ hbd hb5;have vO:NdB w5 w2.heap.size (stN n) ⟨s2.lo,s2.lc,some ⟨Wc.heap.size,0,none⟩,1,s2.no,s2.nc,s2.mo,s2.mc⟩:=VHas.next vd hb5;have vR:NdB w5 (w.heap.size+1) nd0 ns0:=VHas.next vRd hb5;have vA:NdB w5 w.heap.size n s:=VHas.next vAd hb5;have hN5:NetV w.heap.size [] (.slice (some ⟨e0,0,none⟩) 0 0) w5:=NetV.rb _ _ _ hNd hb5;have hO:=hOs.next hb5;have hbs5:w1.heap.size<=w5.heap.size:=Nat.le_trans hbase (Nat.le_of_lt vO.lt);have hmj:majB (stN n).peers (stN n).votes.length=majB n.peers 1:=rfl;rw[hmj];have hpN:Hid (1<=(stN n).peers/\(stN n).peers<=5):=⟨hpe.1,hpe.2.1⟩
 have hiN:Hid (0<=(stN n).id/\(stN n).id<(stN n).peers):=hpe.2.2;have hcN:Hid (0<=(stN n).commit):=hco;have htN:Hid (0<(stN n).term):=by show 0<n.term+1;omega
 have hidN:Hid ((stN n).id=n.id):=rfl;have hteN:Hid ((stN n).term=n.term+1):=rfl;have hloN:Hid ((stN n).log=n.log):=rfl;clear hmj hbd hb5 vd vRd vAd hNd hOs hr' ht' hwt;generalize stN n=N at vO hO hzs HN1 HL1 hpN hiN hcN htN hidN hteN hloN ⊢;generalize (⟨s2.lo,s2.lc,some ⟨Wc.heap.size,0,none⟩,1,s2.no,s2.nc,s2.mo,s2.mc⟩:NdS)=s3 at vO hO hzs ⊢;obtain⟨f0,f1,f2,f3,f4,f5,f6,f7,f8,f9⟩:=cN vO;rcases Bool.eq_false_or_eq_true (majB n.peers 1) with hm|hm
 ·rw[hm]
  have HN:Hid (tsN n=ldN N):=by show _ = _;rw[HN1.out,hm];rfl
  have HL:Hid (tsL n=ldL N):=by show _ = _;rw[HL1.out,hm];rfl
  clear hm HN1 HL1 hN5
  go_wp2_with fail
  refine (specLead_any N s3 hzs w2.heap.size w1.heap.size hpN.out hiN.out hcN.out htN.out _ hbs5 vO hO).mono ?_;rintro e w9 ⟨v4,s4,rfl,vL,hOL,hVL,hGL⟩;have vR9:NdB w9 (w.heap.size+1) nd0 ns0:=VHas.of_block vR (hGL.block _ vR.lt (by omega) (fun q=>by have h1:=(GOwn.at hO.l (by rw[ownBlk_eq];exact q)).1;omega));have hb9:RB w w9:=hGL.new hb (by omega) (fun k q=>by have h1:=(GOwn.at hO.l (by rw[ownBlk_eq];exact q)).1;omega);have hV:NetV w.heap.size (ldL N) v4 w9:=NetV.from hVL hb.size
  clear f0 f1 f2 f3 f4 f5 f6 f7 f8 f9 hO vO hGL hVL vR;generalize hLL:ldN N=M at vL hOL HN;clear hLL;obtain⟨f0,f1,f2,f3,f4,f5,f6,f7,f8,f9⟩:=cN vL
  go_wp2_with (first|((with_reducible refine wB 27 (.tmp 2) (.tmp 40) (w.heap.size+1) (ndL (M) (s4)) vR9 ?_);intro W9 hv9 hg9)|fail)
  obtain⟨q0,q1,q2,q3,q4,q5,q6,q7,q8,q9⟩:=cN hv9;exact bodyPost_ret (v:=.tuple #[ndV M s4,v4]) (by simp[results,Tryz.results15,go_sem,q0,q1,q2,q3,q4,q5,q6,q7,q8,q9]) rfl (by rw[HN.out,HL.out];exact⟨s4,v4,rfl,(hOL.gr hg9 (ndT vR9) (by decide) (by decide)).from (by omega),NetV.gr hV hg9 vR9.typed,gr_rb hb9 hg9 (by omega)⟩)
 rw[hm];have HN:Hid (tsN n=N):=by show _ = _;rw[HN1.out,hm];rfl
 have HL:Hid (tsL n=othL n.id (fun k=>voteM N (k:Int)) n.peers.toNat):=by show _ = _;rw[HL1.out,hm];rfl
 clear hm HN1 HL1;obtain⟨P,hP⟩:∃ P:Nat,n.peers=(P:Int):=⟨n.peers.toNat,by omega⟩
 have hP5:P<=5:=by omega
 have hPt:n.peers.toNat=P:=by omega
 rw[hPt]at HL;replace hP:Hid (n.peers=(P:Int)):=hP;obtain⟨c0,c1,c2,c3,c4,c5,c6,c7,c8,c9⟩:=cN vA;go_wp2;clear f0 f1 f2 f3 f4 f5 f6 f7 f8 f9 c0 c1 c2 c3 c4 c5 c6 c7 c8 c9 hpe hPt
 go_loopw [4,6] (fun x4 x6 wr=>∃ k:Nat,k<=P/\x6=.int .i64 (k:Int)/\NetV w.heap.size (othL n.id (fun k=>voteM N (k:Int)) k) x4 wr/\NdB wr w.heap.size n s/\NdB wr w2.heap.size N s3/\NdB wr (w.heap.size+1) nd0 ns0/\NdO wr w1.heap.size N s3/\RB w wr) (fun _ x _=>P-(intOf x).toNat)
 case atStart=>exact⟨0,Nat.zero_le _,rfl,hN5,vA,vO,vR,hO,hb⟩
 case round=>
  obtain⟨k,hk,rfl,⟨ao,cap,l,rfl,hl,hN⟩,vA9,vO9,vR9,hO9,hRW⟩:=hrel;clear vA vO vR hO hb hN5;obtain⟨c0,c1,c2,c3,c4,c5,c6,c7,c8,c9⟩:=cN vA9;obtain⟨f0,f1,f2,f3,f4,f5,f6,f7,f8,f9⟩:=cN vO9
  by_cases hlt:k<P
  rotate_left
  ·obtain rfl:k=P:=by omega
   have hge:¬ (k:Int)<n.peers:=by have:=hP.out;omega
   clear c0 c2 c3 c4 c5 c6 c7 c8 c9
   go_wp2_with (first|((with_reducible refine wB 27 (.tmp 2) (.tmp 67) (w.heap.size+1) (ndL (N) (s3)) vR9 ?_);intro W9 hv9 hg9)|fail)
   obtain⟨q0,q1,q2,q3,q4,q5,q6,q7,q8,q9⟩:=cN hv9;exact bodyPost_ret (v:=.tuple #[ndV N s3,.slice ao l.length cap]) (by simp[results,Tryz.results15,go_sem,q0,q1,q2,q3,q4,q5,q6,q7,q8,q9]) rfl (by rw[HN.out,HL.out];exact⟨s3,_,rfl,(hO9.gr hg9 (ndT vR9) (by decide) (by decide)).from (by omega),NetV.gr ⟨ao,cap,l,rfl,hl,hN⟩ hg9 vR9.typed,gr_rb hRW hg9 (by omega)⟩)
  have hlt':(k:Int)<n.peers:=by have:=hP.out;omega
  have hwk:IntKind.i64.wrap ((k:Int)+1)=(k:Int)+1:=by rw[IntKind.wrap_i64];omega
  by_cases hid:(k:Int)=n.id
  ·have e:Hid (othL n.id (fun k=>voteM N (k:Int)) (k+1)=othL n.id (fun k=>voteM N (k:Int)) k):=by show _ = _;simp only[othL];rw[if_pos hid]
   have hid':((k:Int) != n.id)=false:=by simp[hid]
   clear hid;go_wp2
   go_roundw
   case rel=>exact⟨k+1,by omega,by go_num,⟨ao,cap,l,rfl,hl.trans e.out.symm,hN⟩,vA9,vO9,vR9,hO9,hRW⟩
   case measure=>first|(simp[intOf];omega)|(simp[intOf];done)
  have hid':((k:Int) != n.id)=true:=by simp[hid]
  have hll:l.length<=1000:=by
   have h1:=othL_len n.id (fun k=>voteM N (k:Int)) k;rw[<-hl,List.length_map]at h1;omega
  have e:Hid (othL n.id (fun k=>voteM N (k:Int)) (k+1)=othL n.id (fun k=>voteM N (k:Int)) k++[voteM N (k:Int)]):=by show _ = _;simp only[othL];rw[if_neg hid]
  replace hl:Hid _:=hl;clear hid
  go_wp2_with fail
  clear f0 f1 f2 f3 f4 f5 f6 f7 f8 f9 c0 c1 c2 c3 c4 c5 c6 c7 c8 c9;have hd:RB wr wr.drew:=(Below.refl _ _).drew;replace hRW:=RB.trans _ _ _ hRW hd;replace vA9:NdB wr.drew w.heap.size n s:=VHas.next vA9 hd;replace vO9:NdB wr.drew w2.heap.size N s3:=VHas.next vO9 hd;replace vR9:NdB wr.drew (w.heap.size+1) nd0 ns0:=VHas.next vR9 hd;replace hO9:=hO9.next hd;replace hN:=hN.next hd;have hbs:=hRW.size;clear hd
  refine region_asg2 (by kernel_rfl) (by kernel_rfl) RB RB.refl RB.trans
   [isV (.slice ao l.length cap),isV (.pointer (some ⟨w2.heap.size,2,none⟩)),isV (.int .i64 N.term),isV (.pointer (some ⟨w.heap.size,0,none⟩)),isV (.int .i64 n.id),isV (.int .i64 (k:Int)),isV (.pointer (some ⟨w.heap.size,4,none⟩)),isV (.slice s.lo n.log.length s.lc),isV (.int .i64 (n.log.length:Int)),isV (.pointer (some ⟨w.heap.size,4,none⟩)),isV (.slice s.lo n.log.length s.lc),isV (.int .i64 (lastL n.log)),MgV w.heap.size (voteM N (k:Int)),Mg1 w.heap.size (voteM N (k:Int))]
   ⟨isV.rb,isV.rb,isV.rb,isV.rb,isV.rb,isV.rb,isV.rb,isV.rb,isV.rb,isV.rb,isV.rb,isV.rb,MgV.rb,Mg1.rb,trivial⟩ (by kernel_rfl) _ _ rfl rfl (by kernel_rfl) (by kernel_rfl) (by kernel_rfl) ?_
   (fun v u w9=>NetV w.heap.size (l.map (·.m)++[(voteM N (k:Int))]) u w9/\NdB w9 w.heap.size n s/\NdB w9 w2.heap.size N s3/\NdB w9 (w.heap.size+1) nd0 ns0/\NdO w9 w1.heap.size N s3/\RB w w9) ?_ ?_
  ·simp only[List.size_toArray,List.length_cons,List.length_nil,Nat.reduceAdd,Nat.reduceSub,List.take_succ_cons,List.take_zero]
   refine⟨?_,?_,?_,?_,?_,?_,?_,?_,?_,?_,?_,?_,?_,?_,trivial⟩
   ·exact oq rfl fun ev w9 v hR E pr=>by
     have e1:=E.was 4 _;simp[go_sem,e1]
   ·exact oq rfl fun ev w9 v hR E pr=>by
     have e1:=E.was 5 _;simp[go_sem,e1]
   ·exact oq rfl fun ev w9 v hR E pr=>by
     have e1:=E.eq pr 1 53;have cc:=(vO9.next hR).cell (j:=2) (by omega);simp[lf]at cc;simp[go_sem,cc,e1]
   ·exact oq rfl fun ev w9 v hR E pr=>by
     have e1:=E.was 1 _;simp[go_sem,e1]
   ·exact oq rfl fun ev w9 v hR E pr=>by
     have e1:=E.eq pr 3 55;have cc:=(vA9.next hR).cell (j:=0) (by omega);simp[lf]at cc;simp[go_sem,cc,e1]
   ·exact oq rfl fun ev w9 v hR E pr=>by
     have e1:=E.was 6 _;simp[go_sem,e1]
   ·exact oq rfl fun ev w9 v hR E pr=>by
     have e1:=E.was 1 _;simp[go_sem,e1]
   ·exact oq rfl fun ev w9 v hR E pr=>by
     have e1:=E.eq pr 6 58;have cc:=(vA9.next hR).cell (j:=4) (by omega);simp[lf]at cc;simp[go_sem,cc,e1]
   ·exact oq rfl fun ev w9 v hR E pr=>by
     have e1:=E.eq pr 7 59;simp[go_sem,e1]
   ·exact oq rfl fun ev w9 v hR E pr=>by
     have e1:=E.was 1 _;simp[go_sem,e1]
   ·exact oq rfl fun ev w9 v hR E pr=>by
     have e1:=E.eq pr 9 61;have cc:=(vA9.next hR).cell (j:=4) (by omega);simp[lf]at cc;simp[go_sem,cc,e1]
   ·exact OpOk.ret _ (fun _=>rfl) fun ev w9 v hR E pr=>by
     have e1:=E.eq pr 10 62;refine⟨43,#[.slice s.lo n.log.length s.lc],by simp[go_sem,gv,e1,E.fn],?_⟩;exact specLast_L s.lo s.lc n.log hz.l _ (HM.out _ (RB.trans _ _ _ hRW hR)).l
   ·refine OpOk.val rfl fun ev w9 v hR E pr=>?_
    have e1:=E.eq pr 2 54;have e2:=E.eq pr 4 56;have e3:=E.eq pr 5 57;have e4:=E.eq pr 8 60;have e5:=E.eq pr 11 63;exact⟨msV (voteM N (k:Int)) none 0,w9,by simp[go_sem,e1,e2,e3,e4,e5,E.con,voteM,hidN.out,hloN.out],RB.refl _,none,0,rfl,GOwn.nil _ _ _ _ _⟩
   ·refine OpOk.val rfl fun ev w9 v hR E pr=>?_
    obtain⟨a,c,e1,ho⟩:MgV w.heap.size (voteM N (k:Int)) (ev (.tmp 64)) w9:=E.get pr 12 64;exact⟨.slice (some ⟨w9.heap.size,0,none⟩) 1 1,w9.alloc (.cells (msL (voteM N (k:Int)) a c).toArray 29),by simp[go_sem,e1],RB.alloc _ _,_,a,c,rfl,msB_new w9 (voteM N (k:Int)) a c,ho.next (RB.alloc _ _)⟩
  ·intro ev w9 v hR E hp
   obtain⟨p0,_,_,_,_,_,_,_,_,_,_,_,_,p13,_⟩:=hp;have E0:=E.at_ 0 52 rfl (by kernel_rfl) (Nat.le_of_ble_eq_true (by kernel_rfl));have E1:=E.at_ 13 65 rfl (by kernel_rfl) (Nat.le_of_ble_eq_true (by kernel_rfl));have hN9:=hN.next hR;refine ex_mono (app_ok rfl (E0.trans p0) hN9 (by rw[E1];exact p13) hll (Nat.le_trans hbs hR.size)) ?_;rintro u w8 ⟨hv,hg⟩;have hT:=fun x e=>hN9.o.typed (x:=x) e
   exact⟨hv,VHas.gr (VHas.next vA9 hR) hg hT (by decide),VHas.gr (VHas.next vO9 hR) hg hT (by decide),VHas.gr (VHas.next vR9 hR) hg hT (by decide),(hO9.next hR).gr hg hT (by decide) (by decide),rb_row (RB.trans _ _ _ hRW hR) hg (fun x e=>(hN9.o.at e).1)⟩
  ·rintro v u w9 ⟨hv9,xA,xO,xR,xM,hR9⟩
   simp only[List.size_toArray,List.length_cons,List.length_nil,Nat.reduceAdd,Nat.reduceSub,List.take_succ_cons,List.take_zero,putL,Nat.zero_add,Act.put,List.setIfInBounds_toArray,List.set_cons_zero,List.set_cons_succ];refine⟨u,by simp[go_sem],?_⟩;rw[hl.out,<-e.out]at hv9;clear vA9 vO9 vR9 hO9 hN hRW;go_wp2
   go_roundw
   case rel=>exact⟨k+1,by omega,by go_num,hv9,xA,xO,xR,xM,hR9⟩
   case measure=>first|(simp[intOf];omega)|(simp[intOf];done)
def axN (n:Nd) (fr:Nat) (x:Int):Nd:=⟨n.id,n.peers,n.term,n.vote,n.log,n.role,n.commit,n.votes,n.next.set fr x,n.mat⟩
def amN (n:Nd) (fr:Nat) (x:Int):Nd:=⟨n.id,n.peers,n.term,n.vote,n.log,n.role,n.commit,n.votes,n.next,n.mat.set fr x⟩
def acN (n:Nd):Nd:=⟨n.id,n.peers,n.term,n.vote,n.log,n.role,agrN n,n.votes,n.next,n.mat⟩
def apdX (n:Nd) (m:Ms) (fr:Nat):Int:=max (min (iOf n.next fr-2) m.index+1) (iOf n.mat fr+1)
def apdM (n:Nd) (m:Ms) (fr:Nat):Int:=if m.index<=n.log.length then max (iOf n.mat fr) m.index else iOf n.mat fr
def apdN (n:Nd) (m:Ms) (fr:Nat):Nd:=
 if n.role=3/\m.term=n.term then
  (if m.yes then acN (axN (amN n fr (apdM n m fr)) fr (apdM n m fr+1)) else axN n fr (apdX n m fr))
 else n
theorem ndL_ax (n:Nd) (fr:Nat) (x:Int) (s:NdS):ndL (axN n fr x) s=ndL n s:=by simp[axN]
theorem ndL_am (n:Nd) (fr:Nat) (x:Int) (s:NdS):ndL (amN n fr x) s=ndL n s:=by simp[amN]
theorem NdO.xv {w:World} {base:Nat} {n:Nd} {lo vo mo:Option Addr} {lc vc gx nc mc:Nat} (h:NdO w base n ⟨lo,lc,vo,vc,some ⟨gx,0,none⟩,nc,mo,mc⟩) {fr:Nat} (hf:fr<n.next.length):VHas w gx 2 (n.next.length*1) (lf (ilc n.next)):=by
 obtain⟨g',e',_,hv⟩:=h.x.vh (by show 0<n.next.length;omega);cases e';exact hv
theorem NdO.setX {w:World} {base:Nat} {n:Nd} {lo vo:Option Addr} {lc vc gx nc mc:Nat} {mo:Option Addr} (h:NdO w base n ⟨lo,lc,vo,vc,some ⟨gx,0,none⟩,nc,mo,mc⟩) (fr:Nat) (hf:fr<n.next.length) (x:Int):NdO (w.setCell ⟨gx,fr,none⟩ (.int .i64 x)) base (axN n fr x) ⟨lo,lc,vo,vc,some ⟨gx,0,none⟩,nc,mo,mc⟩/\Ch base w (w.setCell ⟨gx,fr,none⟩ (.int .i64 x)):=by
 obtain⟨g',e',hgb,hv⟩:=h.x.vh (by show 0<n.next.length;omega);cases e';have hg:=gr_setCell w gx fr (.int .i64 x);have hgt:∀ y,some gx=some y->Typed w y 2:=fun y e=>by cases e;exact hv.typed
 refine⟨⟨h.l.gr hg hgt (by decide),h.v.apart hg (fun e=>h.vx gx e rfl),h.x.set fr hf x,h.m.apart hg (fun e=>h.xm gx rfl e),h.vx,h.vm,h.xm⟩,Ch.of_gr hg hgb (.inl hv.typed)⟩
theorem NdO.setM {w:World} {base:Nat} {n:Nd} {lo vo no:Option Addr} {lc vc gm nc mc:Nat} (h:NdO w base n ⟨lo,lc,vo,vc,no,nc,some ⟨gm,0,none⟩,mc⟩) (fr:Nat) (hf:fr<n.mat.length) (x:Int):NdO (w.setCell ⟨gm,fr,none⟩ (.int .i64 x)) base (amN n fr x) ⟨lo,lc,vo,vc,no,nc,some ⟨gm,0,none⟩,mc⟩/\Ch base w (w.setCell ⟨gm,fr,none⟩ (.int .i64 x)):=by
 obtain⟨g',e',hgb,hv⟩:=h.m.vh (by show 0<n.mat.length;omega);cases e';have hg:=gr_setCell w gm fr (.int .i64 x);have hgt:∀ y,some gm=some y->Typed w y 2:=fun y e=>by cases e;exact hv.typed
 refine⟨⟨h.l.gr hg hgt (by decide),h.v.apart hg (fun e=>h.vm gm e rfl),h.x.apart hg (fun e=>h.xm gm e rfl),h.m.set fr hf x,h.vx,h.vm,h.xm⟩,Ch.of_gr hg hgb (.inl hv.typed)⟩
theorem OwI.cells {w:World} {base cap g:Nat} {l:List Int} (h:OwI w base (some ⟨g,0,none⟩) cap l) (hl:0<l.length):VHas w g 2 (l.length*1) (lf (ilc l)):=by
 obtain⟨g',e,_,hv⟩:=h.vh hl;cases e;exact hv
def psN (n:Nd) (t:ByteArray):Nd:=if nodeR n=true then prN n t else nd0
def psK (n:Nd) (t:ByteArray):Int:=if nodeR n=true then prK n t else -1
def NpA (n:Nd) (k:Int) (w w':World) (e:Ending):Prop:=∃ s,e=.returned (.tuple #[ndV n s,.int .i64 k])/\NdO w' w.heap.size n s/\RB w w'
theorem logL_len {l:List En} (h:logL l=true):l.length<=200:=by
 simp only[logL,logB,Bool.and_eq_true]at h;exact of_decide_eq_true h.1
set_option maxRecDepth 100000 in
set_option maxHeartbeats 16000000 in
theorem specPropose_any (n:Nd) (s:NdS) (hz:NdZ n s) (t:ByteArray) (ht:t.size<=1048576) (w:World) (hM:NdM w n s):Calls Tryz.prog 22 #[ndV n s,.string t] w fun e w'=>NpA (psN n t) (psK n t) w w' e:=by
 have hb:=RB.trans _ _ _ (RB.alloc w (.cells (ndL n s).toArray 27)) (RB.alloc _ (.cells (ndL nd0 ns0).toArray 27));have vA:NdB _ w.heap.size n s:=(ndB_new w n s).next (RB.alloc _ (.cells (ndL nd0 ns0).toArray 27));have vR:=ndB_new (w.alloc (.cells (ndL n s).toArray 27)) nd0 ns0;rw[World.size_alloc]at vR;have HM:Hid (∀ W,RB w W->NdM W n s):=fun W h=>hM.next h
 clear hM;go_enter Tryz.func22,Tryz.ntmps22;refine wp_seq_h' fun K0 hK0=>?_
 go_wp2;refine hK0.out _ _ ?_;clear hK0;generalize ((w.alloc _).alloc _)=W at hb vA vR ⊢;obtain⟨c0,c1,c2,c3,c4,c5,c6,c7,c8,c9⟩:=cN vA
 go_wp2_with fail
 refine (specNodeOk_any n s hz _ (HM.out _ hb)).mono ?_;rintro e w1 ⟨rfl,hb1⟩;replace hb:=RB.trans _ _ _ hb hb1;replace vA:NdB w1 w.heap.size n s:=VHas.next vA hb1;replace vR:NdB w1 (w.heap.size+1) nd0 ns0:=VHas.next vR hb1;clear hb1 c0 c1 c2 c3 c4 c5 c6 c7 c8 c9;obtain⟨c0,c1,c2,c3,c4,c5,c6,c7,c8,c9⟩:=cN vA;rcases Bool.eq_false_or_eq_true (nodeR n) with hB|hB
 rotate_left
 ·rw[hB]
  have HN:Hid (psN n t=nd0):=by show _ = _;simp[psN,hB]
  have HK:Hid (psK n t = -1):=by show _ = _;simp[psK,hB]
  clear hB
  go_wp2_with (first|((with_reducible refine wB 27 (.tmp 4) (.tmp 12) (w.heap.size+1) (ndL (nd0) (ns0)) vR ?_);intro W9 hv9 hg9)|fail)
  obtain⟨q0,q1,q2,q3,q4,q5,q6,q7,q8,q9⟩:=cN hv9;exact bodyPost_ret (v:=.tuple #[ndV nd0 ns0,.int .i64 (-1)]) (by simp[results,Tryz.results22,go_sem,q0,q1,q2,q3,q4,q5,q6,q7,q8,q9]) rfl (by rw[HN.out,HK.out];exact⟨ns0,rfl,ndO_zero _ _,gr_rb hb hg9 (by omega)⟩)
 rw[hB];have hBB:=nodeR_B hB;have hpe:=nodeB_peers hBB
 have hco:0<=n.commit:=by
  simp[nodeB]at hBB;omega
 have hlog:n.log.length<=200:=by
  simp only[nodeB,Bool.and_eq_true]at hBB;exact logL_len hBB.2.2.2.2.1.1
 have hte:0<=n.term:=by
  simp[nodeB]at hBB;omega
 have hrch:=fun h=>nodeB_reach hBB h
 have ht0:n.role=3->n.term≠0:=fun h h2=>by simp[nodeR,h,h2]at hB
 have HN0:Hid (psN n t=if prB n t=true then miN (prA n t) n.id.toNat else n):=by show _ = _;simp[psN,prN,hB,hBB]
 have HK0:Hid (psK n t=if prB n t=true then (n.log.length:Int)+1 else -1):=by show _ = _;simp[psK,prK,hB,hBB]
 clear hB hBB
 go_wp2_with fail
 clear c0 c1 c2 c3 c4 c5 c6 c7 c8 c9;refine (specCopy_any n s hz _ (HM.out _ hb)).mono ?_;rintro e w2 ⟨s2,rfl,hO,hb2⟩;have hbase:w1.heap.size<=w2.heap.size:=hb2.size;have hw1s:w.heap.size+1<w1.heap.size:=vR.lt;replace hb:=RB.trans _ _ _ hb hb2;replace vA:NdB w2 w.heap.size n s:=VHas.next vA hb2;replace vR:NdB w2 (w.heap.size+1) nd0 ns0:=VHas.next vR hb2;clear hb2;have hal:=RB.alloc w2 (.cells (ndL nd0 ns0).toArray 27);have vO:=ndB_new w2 nd0 ns0;replace hO:=hO.next hal;replace hb:=RB.trans _ _ _ hb hal;replace vA:NdB _ w.heap.size n s:=VHas.next vA hal;replace vR:NdB _ (w.heap.size+1) nd0 ns0:=VHas.next vR hal;clear hal
 go_wp2_with (first|((with_reducible refine wB 27 (.tmp 6) (.tmp 14) (w2.heap.size) (ndL (n) (s2)) vO ?_);intro Wo vO0 go1;have vO1:NdB Wo w2.heap.size n s2:=vO0;clear vO0)|fail)
 have hO1:=hO.gr go1 (ndT vO) (by decide) (by decide);have hb1:=gr_rb hb go1 (by omega);have vA1:NdB Wo w.heap.size n s:=VHas.grown vA go1 (fun e=>by have:=Option.some.inj e;omega);have vR1:NdB Wo (w.heap.size+1) nd0 ns0:=VHas.grown vR go1 (fun e=>by have:=Option.some.inj e;omega);clear hO hb vA vR vO go1;refine (specRead_any t ht _).mono ?_;rintro e w3 ⟨xo,xc,rfl,_,hb3⟩;replace hb:=RB.trans _ _ _ hb1 hb3;replace vA:NdB w3 w.heap.size n s:=VHas.next vA1 hb3;replace vR:NdB w3 (w.heap.size+1) nd0 ns0:=VHas.next vR1 hb3;replace vO:NdB w3 w2.heap.size n s2:=VHas.next vO1 hb3;replace hO:=hO1.next hb3;clear hb1 vA1 vR1 vO1 hO1 hb3;generalize hrr:onlyOk (rdS t.data.toList)=r;have hpr:prR t=r.isSome:=by unfold prR;rw[hrr]
 clear hrr;have hal:=RB.alloc w3 (.cells #[.int .i64 0,.slice none 0 0,.int .i64 0,.int .i64 0] 78);have vC:VHas (w3.alloc (.cells #[.int .i64 0,.slice none 0 0,.int .i64 0,.int .i64 0] 78)) w3.heap.size 78 4 (lf [.int .i64 0,.slice none 0 0,.int .i64 0,.int .i64 0]):=box_new w3 [.int .i64 0,.slice none 0 0,.int .i64 0,.int .i64 0] 78;replace hb:=RB.trans _ _ _ hb hal;replace vA:NdB _ w.heap.size n s:=VHas.next vA hal;replace vR:NdB _ (w.heap.size+1) nd0 ns0:=VHas.next vR hal;replace vO:NdB _ w2.heap.size n s2:=VHas.next vO hal;replace hO:=hO.next hal;clear hal;have hs3:w2.heap.size<w3.heap.size:=by have h:=vO.lt;rw[World.size_alloc]at h;have h2:=typed_ne vO.typed vC.typed (by decide);omega
 have hw13:w.heap.size+1<w3.heap.size:=by omega
 by_cases hr:n.role=3
 rotate_left
 ·have hp:prB n t=false:=by simp[prB,hr]
  have HN:Hid (psN n t=n):=by show _ = _;rw[HN0.out,hp];rfl
  have HK:Hid (psK n t = -1):=by show _ = _;rw[HK0.out,hp];rfl
  have hr':(n.role != 3)=true:=by simp[hr]
  clear hp hr hrch ht0 hpr
  go_wp2_with (first|((with_reducible refine wB 78 (.tmp 7) (.tmp 18) w3.heap.size [.int .i64 (kOf r),.slice xo ((lOf r).length / 3) xc,.int .i64 (aOf r 0),.int .i64 (aOf r 1)] vC ?_);intro W4 vC4 g4;have vA4:NdB W4 w.heap.size n s:=VHas.grown vA g4 (fun e=>by have:=Option.some.inj e;omega);have vR4:NdB W4 (w.heap.size+1) nd0 ns0:=VHas.grown vR g4 (fun e=>by have:=Option.some.inj e;omega);have vO4:NdB W4 w2.heap.size n s2:=VHas.grown vO g4 (fun e=>by have:=Option.some.inj e;omega);obtain⟨c0,c1,c2,c3,c4,c5,c6,c7,c8,c9⟩:=cN vA4;obtain⟨f0,f1,f2,f3,f4,f5,f6,f7,f8,f9⟩:=cN vO4)|((with_reducible refine wB 27 (.tmp 4) (.tmp 33) (w.heap.size+1) (ndL (n) (s2)) vR4 ?_);intro W9 hv9 hg9)|fail)
  obtain⟨q0,q1,q2,q3,q4,q5,q6,q7,q8,q9⟩:=cN hv9;exact bodyPost_ret (v:=.tuple #[ndV n s2,.int .i64 (-1)]) (by simp[results,Tryz.results22,go_sem,q0,q1,q2,q3,q4,q5,q6,q7,q8,q9]) rfl (by rw[HN.out,HK.out];exact⟨s2,rfl,((hO.gr g4 (fun z e=>by cases e;exact vC.typed) (by decide) (by decide)).gr hg9 (ndT vR4) (by decide) (by decide)).from (by omega),gr_rb (gr_rb hb g4 (by omega)) hg9 (by omega)⟩)
 have hr':(n.role != 3)=false:=by simp[hr]
 obtain⟨hnl,hml,_⟩:=hrch hr;have hta:=ht0 hr;rcases Bool.eq_false_or_eq_true r.isSome with his|his
 rotate_left
 ·have hp:prB n t=false:=by simp[prB,hpr,his]
  have HN:Hid (psN n t=n):=by show _ = _;rw[HN0.out,hp];rfl
  have HK:Hid (psK n t = -1):=by show _ = _;rw[HK0.out,hp];rfl
  rw[his];clear hp hr hrch ht0 hpr his
  go_wp2_with (first|((with_reducible refine wB 78 (.tmp 7) (.tmp 18) w3.heap.size [.int .i64 (kOf r),.slice xo ((lOf r).length / 3) xc,.int .i64 (aOf r 0),.int .i64 (aOf r 1)] vC ?_);intro W4 vC4 g4;have vA4:NdB W4 w.heap.size n s:=VHas.grown vA g4 (fun e=>by have:=Option.some.inj e;omega);have vR4:NdB W4 (w.heap.size+1) nd0 ns0:=VHas.grown vR g4 (fun e=>by have:=Option.some.inj e;omega);have vO4:NdB W4 w2.heap.size n s2:=VHas.grown vO g4 (fun e=>by have:=Option.some.inj e;omega);obtain⟨c0,c1,c2,c3,c4,c5,c6,c7,c8,c9⟩:=cN vA4;obtain⟨f0,f1,f2,f3,f4,f5,f6,f7,f8,f9⟩:=cN vO4)|((with_reducible refine wB 27 (.tmp 4) (.tmp 33) (w.heap.size+1) (ndL (n) (s2)) vR4 ?_);intro W9 hv9 hg9)|fail)
  obtain⟨q0,q1,q2,q3,q4,q5,q6,q7,q8,q9⟩:=cN hv9;exact bodyPost_ret (v:=.tuple #[ndV n s2,.int .i64 (-1)]) (by simp[results,Tryz.results22,go_sem,q0,q1,q2,q3,q4,q5,q6,q7,q8,q9]) rfl (by rw[HN.out,HK.out];exact⟨s2,rfl,((hO.gr g4 (fun z e=>by cases e;exact vC.typed) (by decide) (by decide)).gr hg9 (ndT vR4) (by decide) (by decide)).from (by omega),gr_rb (gr_rb hb g4 (by omega)) hg9 (by omega)⟩)
 rw[his]
 by_cases hl:n.log.length=200
 ·have hrm:roomL n=false:=by simp[roomL,hl]
  have hp:prB n t=false:=by simp[prB,hrm]
  have HN:Hid (psN n t=n):=by show _ = _;rw[HN0.out,hp];rfl
  have HK:Hid (psK n t = -1):=by show _ = _;rw[HK0.out,hp];rfl
  have hl':((n.log.length:Int)==200)=true:=by rw[beq_iff_eq];omega
  clear hp hr hrch ht0 hpr his hl hrm
  go_wp2_with (first|((with_reducible refine wB 78 (.tmp 7) (.tmp 18) w3.heap.size [.int .i64 (kOf r),.slice xo ((lOf r).length / 3) xc,.int .i64 (aOf r 0),.int .i64 (aOf r 1)] vC ?_);intro W4 vC4 g4;have vA4:NdB W4 w.heap.size n s:=VHas.grown vA g4 (fun e=>by have:=Option.some.inj e;omega);have vR4:NdB W4 (w.heap.size+1) nd0 ns0:=VHas.grown vR g4 (fun e=>by have:=Option.some.inj e;omega);have vO4:NdB W4 w2.heap.size n s2:=VHas.grown vO g4 (fun e=>by have:=Option.some.inj e;omega);obtain⟨c0,c1,c2,c3,c4,c5,c6,c7,c8,c9⟩:=cN vA4;obtain⟨f0,f1,f2,f3,f4,f5,f6,f7,f8,f9⟩:=cN vO4)|((with_reducible refine wB 27 (.tmp 4) (.tmp 33) (w.heap.size+1) (ndL (n) (s2)) vR4 ?_);intro W9 hv9 hg9)|fail)
  obtain⟨q0,q1,q2,q3,q4,q5,q6,q7,q8,q9⟩:=cN hv9;exact bodyPost_ret (v:=.tuple #[ndV n s2,.int .i64 (-1)]) (by simp[results,Tryz.results22,go_sem,q0,q1,q2,q3,q4,q5,q6,q7,q8,q9]) rfl (by rw[HN.out,HK.out];exact⟨s2,rfl,((hO.gr g4 (fun z e=>by cases e;exact vC.typed) (by decide) (by decide)).gr hg9 (ndT vR4) (by decide) (by decide)).from (by omega),gr_rb (gr_rb hb g4 (by omega)) hg9 (by omega)⟩)
 have hl':((n.log.length:Int)==200)=false:=by rw[beq_eq_false_iff_ne];omega
 have hrm:roomL n=true:=by
  have h1:decide (n.log.length<200)=true:=decide_eq_true (by omega);have h2:decide (0<n.term)=true:=decide_eq_true (by omega);simp only[roomL,h1,h2,Bool.and_true]
 have hp:prB n t=true:=by simp[prB,hpr,his,hr,hrm]
 have HN:Hid (psN n t=miN (prA n t) n.id.toNat):=by show _ = _;rw[HN0.out,hp];rfl
 have HK:Hid (psK n t=(n.log.length:Int)+1):=by show _ = _;rw[HK0.out,hp];rfl
 have hl199:n.log.length<200:=by omega
 clear hp hrm hl his hpr hr hrch ht0 HN0 HK0;obtain⟨lo2,lc2,vo2,vc2,no2,nc2,mo2,mc2⟩:=s2;obtain⟨g,eg,hgw,_⟩:=hO.m.vh (by have:=hpe;omega);simp only at eg;subst eg;have hi1:=hpe.2.2.1;have hi2:n.id<(n.mat.length:Int):=by omega
 have hiN:n.id.toNat<n.mat.length:=by omega
 have hmat0:0<n.mat.length:=by omega
 have hkm:n.id.toNat<n.mat.length*1:=by omega
 have hwl1:IntKind.i64.wrap ((n.log.length:Int)+1)=(n.log.length:Int)+1:=by rw[IntKind.wrap_i64];omega
 go_wp2_with (first|((with_reducible refine wB 78 (.tmp 7) (.tmp 18) w3.heap.size [.int .i64 (kOf r),.slice xo ((lOf r).length / 3) xc,.int .i64 (aOf r 0),.int .i64 (aOf r 1)] vC ?_);intro W4 vC4 g4;have vA4:NdB W4 w.heap.size n s:=VHas.grown vA g4 (fun e=>by have:=Option.some.inj e;omega);have vR4:NdB W4 (w.heap.size+1) nd0 ns0:=VHas.grown vR g4 (fun e=>by have:=Option.some.inj e;omega);have vO4:NdB W4 w2.heap.size n ⟨lo2,lc2,vo2,vc2,no2,nc2,some ⟨g,0,none⟩,mc2⟩:=VHas.grown vO g4 (fun e=>by have:=Option.some.inj e;omega);obtain⟨c0,c1,c2,c3,c4,c5,c6,c7,c8,c9⟩:=cN vA4;obtain⟨f0,f1,f2,f3,f4,f5,f6,f7,f8,f9⟩:=cN vO4;have hal:=RB.alloc W4 (.cells #[.int .i64 n.term,.string t] 47);have hgr:GRow (W4.alloc (.cells #[.int .i64 n.term,.string t] 47)) (some ⟨W4.heap.size,0,none⟩) (1*2) (lf [.int .i64 n.term,.string t]):=vhas_grow (box_new W4 [.int .i64 n.term,.string t] 47);have hO4:=hO.gr g4 (fun z e=>by cases e;exact vC.typed) (by decide) (by decide);have hO5:=hO4.next hal;have vA5:NdB (W4.alloc (.cells #[.int .i64 n.term,.string t] 47)) w.heap.size n s:=VHas.next vA4 hal;have vR5:NdB (W4.alloc (.cells #[.int .i64 n.term,.string t] 47)) (w.heap.size+1) nd0 ns0:=VHas.next vR4 hal;have vO5:NdB (W4.alloc (.cells #[.int .i64 n.term,.string t] 47)) w2.heap.size n ⟨lo2,lc2,vo2,vc2,no2,nc2,some ⟨g,0,none⟩,mc2⟩:=VHas.next vO4 hal;have hOl5:GOwn (W4.alloc (.cells #[.int .i64 n.term,.string t] 47)) w1.heap.size 47 2 lo2 n.log.length lc2 (lf (elc n.log)):=hO5.l;have hb5:=RB.trans _ _ _ (gr_rb hb g4 (by omega)) hal;have hbs5:w1.heap.size<=(W4.alloc (.cells #[.int .i64 n.term,.string t] 47)).heap.size:=Nat.le_trans hbase (Nat.le_of_lt vO5.lt);have hon:∀ j,j<1*2->(lf [Value.int .i64 n.term,.string t] j).oneCell'=true:=(fun j hj=>by have hj9:j=0\/j=1:=(by omega);rcases hj9 with rfl|rfl<;>rfl))|(at_builtin;(with_reducible refine wpList_appR rfl (.tmp 35) (.tmp 40) Tryz.elEnQ rfl 41 rfl w1.heap.size _ lo2 n.log.length lc2 (by simp[go_sem]) hOl5 (some ⟨W4.heap.size,0,none⟩) 1 1 (lf [.int .i64 n.term,.string t]) (by simp[go_sem]) hgr hon (by omega) hbs5 ?_);intro ao5 cap5 w6 hown g6;have hT6:∀ x,(Value.slice lo2 n.log.length lc2).ownBlock=some x->Typed _ x 47:=(fun x e=>GOwn.typed hOl5 e);have vO6:NdB w6 w2.heap.size n ⟨lo2,lc2,vo2,vc2,no2,nc2,some ⟨g,0,none⟩,mc2⟩:=VHas.gr vO5 g6 hT6 (by decide))|((with_reducible refine wpList_nd rfl 24 (.tmp 42) (.tmp 41) rfl rfl (w2.heap.size) 4 (.slice ao5 (n.log.length+1) cap5) (by simp[go_sem]) (by simp[go_sem]) (prA n t) (⟨ao5,cap5,vo2,vc2,no2,nc2,some ⟨g,0,none⟩,mc2⟩) vO6 (by omega) (by kernel_rfl) (by kernel_rfl) (oneV (by kernel_rfl)) (by simp[prA]) ?_);intro W7 vO7 g7;clear f0 f1 f2 f3 f4 f5 f6 f7 f8 f9 c0 c1 c2 c3 c4 c5 c6 c7 c8 c9;have vA7:NdB W7 w.heap.size n s:=VHas.grown (VHas.gr vA5 g6 hT6 (by decide)) g7 (fun e=>by have:=Option.some.inj e;omega);obtain⟨c0,c1,c2,c3,c4,c5,c6,c7,c8,c9⟩:=cN vA7;obtain⟨f0,f1,f2,f3,f4,f5,f6,f7,f8,f9⟩:=VHas.c10 vO7;simp[lf,prA]at f0 f1 f2 f3 f4 f5 f6 f7 f8 f9;have hO6:=OwE.more (x:=⟨n.term,t⟩) hown;have hl7:=hO6.gr g7 (ndT vO6) (by decide);have hv7:=(hO5.v.gr g6 hT6 (by decide)).gr g7 (ndT vO6) (by decide);have hx7:=(hO5.x.gr g6 hT6 (by decide)).gr g7 (ndT vO6) (by decide);have hm7:=(hO5.m.gr g6 hT6 (by decide)).gr g7 (ndT vO6) (by decide);have hO7:NdO W7 w1.heap.size (prA n t) ⟨ao5,cap5,vo2,vc2,no2,nc2,some ⟨g,0,none⟩,mc2⟩:=⟨hl7,hv7,hx7,hm7,hO5.vx,hO5.vm,hO5.xm⟩;have hvm:=OwI.cells hm7 hmat0;have hb7:=gr_rb (rb_row hb5 g6 (fun x e=>Nat.le_trans (by omega) (GOwn.at hOl5 e).1)) g7 (by omega);have vR7:NdB W7 (w.heap.size+1) nd0 ns0:=VHas.grown (VHas.gr vR5 g6 hT6 (by decide)) g7 (fun e=>by have:=Option.some.inj e;omega))|((with_reducible refine wpList_cell rfl 2 (.tmp 50) (.tmp 49) rfl rfl g n.id.toNat (.int .i64 ((n.log.length:Int)+1)) (by simp[go_sem]) (by simp[go_sem]) hvm hkm (by kernel_rfl) rfl (oneV rfl) ?_);intro W8 hW8)|fail)
 clear f0 f1 f2 f3 f4 f5 f6 f7 f8 f9 c0 c1 c2 c3 c4 c5 c6 c7 c8 c9;generalize hW8:W7.setCell ⟨g,n.id.toNat,none⟩ (.int .i64 ((n.log.length:Int)+1))=W8;have hset:=hO7.setM n.id.toNat hiN ((n.log.length:Int)+1);rw[hW8]at hset;have eM:amN (prA n t) n.id.toNat ((n.log.length:Int)+1)=(matN (prA n t) n.id.toNat):=by simp[amN,matN,prA]
 rw[eM]at hset;have g8:W7.grownBy W8 (some g):=by rw[<-hW8];exact gr_setCell _ _ _ _
 have hT8:∀ z,some g=some z->Typed W7 z 2:=fun z e=>by cases e;exact hvm.typed
 have vO8:NdB W8 w2.heap.size (matN (prA n t) n.id.toNat) ⟨ao5,cap5,vo2,vc2,no2,nc2,some ⟨g,0,none⟩,mc2⟩:=(VHas.gr vO7 g8 hT8 (by decide)).congr (fun j hj=>by rw[ndL_mat]);have vR8:NdB W8 (w.heap.size+1) nd0 ns0:=VHas.gr vR7 g8 hT8 (by decide);have hO8:=hset.1;have hb8:=gr_rb hb7 g8 (by have:=(hO7.m.at (b:=g) rfl).1;omega);have hlz:(n.log++[(⟨n.term,t⟩:En)]).length<=1048576:=by simp;omega
 have htx:∀ k,k<(n.log++[(⟨n.term,t⟩:En)]).length->(xOf (n.log++[(⟨n.term,t⟩:En)]) k).size<=1048576:=fun k hk=>by
  by_cases q:k<n.log.length
  ·have e9:xOf (n.log++[(⟨n.term,t⟩:En)]) k=xOf n.log k:=by simp[xOf,List.getD_eq_getElem?_getD,List.getElem?_append_left q]
   rw[e9];exact hz.tx k q
  ·obtain rfl:k=n.log.length:=by simp at hk;omega
   simp[xOf];exact ht
 have hK8:=hO8.K;have hzN:NdZ (matN (prA n t) n.id.toNat) ⟨ao5,cap5,vo2,vc2,no2,nc2,some ⟨g,0,none⟩,mc2⟩:=⟨hlz,hz.v,hz.x,by simp[matN,prA];exact hz.m,hK8.l,hK8.v,hK8.x,hK8.m,htx⟩
 have hmlN:(((matN (prA n t) n.id.toNat).mat.length:Nat):Int)=(matN (prA n t) n.id.toNat).peers:=by simp[matN,prA];omega
 refine (specCommit_any (matN (prA n t) n.id.toNat) ⟨ao5,cap5,vo2,vc2,no2,nc2,some ⟨g,0,none⟩,mc2⟩ hzN w2.heap.size hco ⟨hpe.1,hpe.2.1⟩ hmlN _ vO8 hO8.M).mono ?_;rintro e w9 ⟨rfl,vC,gC⟩;have eA:acQ (matN (prA n t) n.id.toNat)=miN (prA n t) n.id.toNat:=rfl;rw[eA]at vC
 have hO9:NdO w9 w1.heap.size (miN (prA n t) n.id.toNat) ⟨ao5,cap5,vo2,vc2,no2,nc2,some ⟨g,0,none⟩,mc2⟩:=by
  have h2:=hO8.gr gC (ndT vO8) (by decide) (by decide);exact⟨h2.l,h2.v,h2.x,h2.m,h2.vx,h2.vm,h2.xm⟩
 have vR9:NdB w9 (w.heap.size+1) nd0 ns0:=VHas.grown vR8 gC (fun e=>by have:=Option.some.inj e;omega);have hb9:=gr_rb hb8 gC (by omega);have hlm:Hid ((((miN (prA n t) n.id.toNat).log.length:Nat):Int)=(n.log.length:Int)+1):=by show _ = _;simp[miN,prA]
 have hs9:=hb9.size;clear eA eM hset g8 hT8 vO8 vR8 hO8 hb8 hlz htx hK8 hzN hmlN gC hvm hO7 vO7 vR7 hb7 vA7 hl7 hv7 hx7 hm7 hO6 g7 hown g6 hT6 vO6 hW8;generalize miN (prA n t) n.id.toNat=M at HN vC hO9 hlm
 go_wp2_with fail
 have hd:RB w9 w9.drew:=(Below.refl _ _).drew;replace hb9:=RB.trans _ _ _ hb9 hd;replace vC:NdB w9.drew w2.heap.size M ⟨ao5,cap5,vo2,vc2,no2,nc2,some ⟨g,0,none⟩,mc2⟩:=VHas.next vC hd;replace vR9:NdB w9.drew (w.heap.size+1) nd0 ns0:=VHas.next vR9 hd;replace hO9:=hO9.next hd;clear hd
 refine region_put (by kernel_rfl) (by kernel_rfl) 4 [0] [1,2,3,5] (by kernel_rfl) (by kernel_rfl)
  (fun u v=>u.grownBy v (some (w.heap.size+1))/\Typed u (w.heap.size+1) 27)
  (fun W5=>NdB W5 (w.heap.size+1) M ⟨ao5,cap5,vo2,vc2,no2,nc2,some ⟨g,0,none⟩,mc2⟩/\NdO W5 w1.heap.size M ⟨ao5,cap5,vo2,vc2,no2,nc2,some ⟨g,0,none⟩,mc2⟩/\RB w W5/\NdB W5 w2.heap.size M ⟨ao5,cap5,vo2,vc2,no2,nc2,some ⟨g,0,none⟩,mc2⟩)
  (fun a b h hR=>⟨VHas.next h.1 hR,h.2.1.next hR,RB.trans _ _ _ h.2.2.1 hR,VHas.next h.2.2.2 hR⟩)
  [isV (ndV M ⟨ao5,cap5,vo2,vc2,no2,nc2,some ⟨g,0,none⟩,mc2⟩),isV (.pointer (some ⟨w2.heap.size,4,none⟩)),isV (.slice ao5 M.log.length cap5),isV (.int .i64 (M.log.length:Int)),fun _ _=>True,isV (.int .i64 (M.log.length:Int))]
  ⟨isV.rb,isV.rb,isV.rb,isV.rb,fun _ _ _ h _=>h,isV.rb,trivial⟩ ?_ ?_ (lates ?_) _ rfl rfl ?_ ?_
 ·intro i hi v a b h hx
  simp only[List.mem_cons,List.not_mem_nil,or_false]at hi;rcases hi with rfl|rfl|rfl|rfl<;>exact h
 ·intro i hi o ho
  simp only[List.mem_cons,List.not_mem_nil,or_false]at hi;subst hi;obtain rfl:=Option.some.inj ho
  exact oq rfl fun ev w' v hR E pr=>by
   have e1:=E.was 6 _;exact exec_nd rfl e1 (vC.next hR)
 ·refine late_skip rfl (late_cons ?_ (late_cons ?_ (late_cons ?_ (late_skip rfl (late_cons ?_ trivial)))))
  ·exact LateOk.get _ (fun _=>rfl) fun ev w5 v hR E pr=>by
    have e1:=E.was 6 _;simp[go_sem,e1]
  ·exact LateOk.get _ (fun _=>rfl) fun ev w5 v hR E pr=>by
    have e1:ev (.tmp 53)=.pointer (some ⟨w2.heap.size,4,none⟩):=E.kept pr 1 53
    have vv:NdB w5 w2.heap.size M ⟨ao5,cap5,vo2,vc2,no2,nc2,some ⟨g,0,none⟩,mc2⟩:=by
     rcases hR with hR|hR
     ·exact VHas.next vC hR
     ·exact hR.2.2.2
    have cc:=VHas.cell vv (j:=4) (by omega);simp[lf]at cc;simp[go_sem,cc,e1]
  ·exact LateOk.get _ (fun _=>rfl) fun ev w5 v hR E pr=>by
    have e1:ev (.tmp 54)=.slice ao5 M.log.length cap5:=E.kept pr 2 54;simp[go_sem,e1]
  ·intro ev w5 v hR E pr
   exact⟨ev (.tmp 55),w5,by simp[go_sem],RB.refl _,E.kept pr 3 55⟩
 ·intro ev w5 v hR E hp
  have E1:ev (.tmp 52)=ndV M ⟨ao5,cap5,vo2,vc2,no2,nc2,some ⟨g,0,none⟩,mc2⟩:=E.get hp 0 52;have E2:ev (.tmp 4)=.pointer (some ⟨w.heap.size+1,0,none⟩):=E.was 4 _;have vR':=VHas.next vR9 hR;have hg:w5.grownBy (setL w5 (w.heap.size+1) 0 (ndL M ⟨ao5,cap5,vo2,vc2,no2,nc2,some ⟨g,0,none⟩,mc2⟩)) (some (w.heap.size+1)):=gr_setL _ _ 0 _;exact⟨_,exec_box (ndL M ⟨ao5,cap5,vo2,vc2,no2,nc2,some ⟨g,0,none⟩,mc2⟩) rfl E2 E1 vR' (by kernel_rfl) (oneAll (by kernel_rfl)),⟨hg,vR'.typed⟩,vhas_box _ vR',(hO9.next hR).gr hg (ndT vR') (by decide) (by decide),gr_rb (RB.trans _ _ _ hb9 hR) hg (by omega),VHas.grown (VHas.next vC hR) hg (fun e=>by have:=Option.some.inj e;omega)⟩
 ·intro v8 w8 hP8 hk8
  have k8:v8 5=.int .i64 (M.log.length:Int):=hk8 5 (by decide) (Nat.le_of_ble_eq_true (by kernel_rfl)) (by decide);simp only[putL,Nat.zero_add,Nat.reduceAdd,Act.put,List.setIfInBounds_toArray,List.set_cons_zero,List.set_cons_succ];obtain⟨hv9,hM9,hb9,_⟩:=hP8;obtain⟨q0,q1,q2,q3,q4,q5,q6,q7,q8,q9⟩:=cN hv9;go_wp2;exact bodyPost_ret (v:=.tuple #[ndV M ⟨ao5,cap5,vo2,vc2,no2,nc2,some ⟨g,0,none⟩,mc2⟩,.int .i64 (M.log.length:Int)]) (by simp[results,Tryz.results22,go_sem,q0,q1,q2,q3,q4,q5,q6,q7,q8,q9,k8]) rfl (by rw[HN.out,HK.out,<-hlm.out];exact⟨⟨ao5,cap5,vo2,vc2,no2,nc2,some ⟨g,0,none⟩,mc2⟩,rfl,hM9.from (by omega),hb9⟩)
def rsO (n:Nd):Nd:=⟨n.id,n.peers,n.term,n.vote,n.log,1,0,[],[],[]⟩
def rsN (n:Nd):Nd:=if nodeR n=true then rsO n else nd0
def bsL (n:Nd):List Ms:=if (nodeR n&&(n.role==3))=true then beatL n else []
def RsV (base:Nat) (n:Nd) (v:Value) (w:World):Prop:=∃ a c,v=ndV (rsO n) ⟨a,c,none,0,none,0,none,0⟩/\OwE w base a c n.log
theorem RsV.rb {base:Nat} {n:Nd} (v:Value) (w w':World) (h:RsV base n v w) (hb:RB w w'):RsV base n v w':=by
 obtain⟨a,c,e,h⟩:=h;exact⟨a,c,e,h.next hb⟩
set_option maxRecDepth 100000 in
set_option maxHeartbeats 8000000 in
theorem specRestart_any (n:Nd) (s:NdS) (hz:NdZ n s) (w:World) (hM:NdM w n s):Calls Tryz.prog 19 #[ndV n s] w fun e w'=>∃ s',e=.returned (ndV (rsN n) s')/\NdO w' w.heap.size (rsN n) s'/\RB w w':=by
 have hb:=RB.trans _ _ _ (RB.alloc w (.cells (ndL n s).toArray 27)) (RB.alloc _ (.cells (ndL nd0 ns0).toArray 27));have vA:NdB _ w.heap.size n s:=(ndB_new w n s).next (RB.alloc _ (.cells (ndL nd0 ns0).toArray 27));have vR:=ndB_new (w.alloc (.cells (ndL n s).toArray 27)) nd0 ns0;rw[World.size_alloc]at vR;have HM:Hid (∀ W,RB w W->NdM W n s):=fun W h=>hM.next h
 clear hM;go_enter Tryz.func19,Tryz.ntmps19;refine wp_seq_h' fun K0 hK0=>?_
 go_wp2;refine hK0.out _ _ ?_;clear hK0;generalize ((w.alloc _).alloc _)=W at hb vA vR ⊢;obtain⟨c0,c1,c2,c3,c4,c5,c6,c7,c8,c9⟩:=cN vA
 go_wp2_with fail
 refine (specNodeOk_any n s hz _ (HM.out _ hb)).mono ?_;rintro e w1 ⟨rfl,hb1⟩;replace hb:=RB.trans _ _ _ hb hb1;replace vA:NdB w1 w.heap.size n s:=VHas.next vA hb1;replace vR:NdB w1 (w.heap.size+1) nd0 ns0:=VHas.next vR hb1;clear hb1 c0 c1 c2 c3 c4 c5 c6 c7 c8 c9;rcases Bool.eq_false_or_eq_true (nodeR n) with hB|hB
 rotate_left
 ·rw[hB]
  have HN:Hid (rsN n=nd0):=by show _ = _;simp[rsN,hB]
  clear hB
  go_wp2_with (first|((with_reducible refine wB 27 (.tmp 2) (.tmp 6) (w.heap.size+1) (ndL (nd0) (ns0)) vR ?_);intro W9 hv9 hg9)|fail)
  obtain⟨q0,q1,q2,q3,q4,q5,q6,q7,q8,q9⟩:=cN hv9;exact bodyPost_ret (v:=ndV nd0 ns0) (by simp[results,Tryz.results19,go_sem,q0,q1,q2,q3,q4,q5,q6,q7,q8,q9]) rfl (by rw[HN.out];exact⟨ns0,rfl,ndO_zero _ _,gr_rb hb hg9 (by omega)⟩)
 rw[hB];have HN:Hid (rsN n=rsO n):=by show _ = _;simp[rsN,hB]
 clear hB;obtain⟨c0,c1,c2,c3,c4,c5,c6,c7,c8,c9⟩:=cN vA
 go_wp2_with fail
 clear c0 c1 c2 c3 c4 c5 c6 c7 c8 c9;have hd:RB w1 w1.drew:=(Below.refl _ _).drew;replace hb:=RB.trans _ _ _ hb hd;replace vA:NdB w1.drew w.heap.size n s:=VHas.next vA hd;replace vR:NdB w1.drew (w.heap.size+1) nd0 ns0:=VHas.next vR hd;have hbs:=hb.size;clear hd
 refine region_store (by kernel_rfl) (by kernel_rfl) (by kernel_rfl) RB RB.refl RB.trans
  [isV (.pointer (some ⟨w.heap.size,0,none⟩)),isV (.int .i64 n.id),isV (.pointer (some ⟨w.heap.size,1,none⟩)),isV (.int .i64 n.peers),isV (.pointer (some ⟨w.heap.size,2,none⟩)),isV (.int .i64 n.term),isV (.pointer (some ⟨w.heap.size,3,none⟩)),isV (.int .i64 n.vote),LE w.heap.size 47,isV (.pointer (some ⟨w.heap.size,4,none⟩)),isV (.slice s.lo n.log.length s.lc),OwV w.heap.size n.log,RsV w.heap.size n]
  ⟨isV.rb,isV.rb,isV.rb,isV.rb,isV.rb,isV.rb,isV.rb,isV.rb,LE.rb,isV.rb,isV.rb,OwV.rb,RsV.rb,trivial⟩ rfl ?_ _ rfl rfl rfl
  (fun v w9=>∃ a c,NdB w9 (w.heap.size+1) (rsO n) ⟨a,c,none,0,none,0,none,0⟩/\OwE w9 w.heap.size a c n.log/\RB w w9) ?_ ?_
 ·simp only[List.size_toArray,List.length_cons,List.length_nil,Nat.reduceAdd,Nat.reduceSub,List.take_succ_cons,List.take_zero]
  refine⟨?_,?_,?_,?_,?_,?_,?_,?_,?_,?_,?_,?_,?_,trivial⟩
  ·exact oq rfl fun ev w9 v hR E pr=>by
    have e1:=E.was 1 _;simp[go_sem,e1]
  ·exact oq rfl fun ev w9 v hR E pr=>by
    have e1:=E.eq pr 0 7;have cc:=(vA.next hR).cell (j:=0) (by omega);simp[lf]at cc;simp[go_sem,cc,e1]
  ·exact oq rfl fun ev w9 v hR E pr=>by
    have e1:=E.was 1 _;simp[go_sem,e1]
  ·exact oq rfl fun ev w9 v hR E pr=>by
    have e1:=E.eq pr 2 9;have cc:=(vA.next hR).cell (j:=1) (by omega);simp[lf]at cc;simp[go_sem,cc,e1]
  ·exact oq rfl fun ev w9 v hR E pr=>by
    have e1:=E.was 1 _;simp[go_sem,e1]
  ·exact oq rfl fun ev w9 v hR E pr=>by
    have e1:=E.eq pr 4 11;have cc:=(vA.next hR).cell (j:=2) (by omega);simp[lf]at cc;simp[go_sem,cc,e1]
  ·exact oq rfl fun ev w9 v hR E pr=>by
    have e1:=E.was 1 _;simp[go_sem,e1]
  ·exact oq rfl fun ev w9 v hR E pr=>by
    have e1:=E.eq pr 6 13;have cc:=(vA.next hR).cell (j:=3) (by omega);simp[lf]at cc;simp[go_sem,cc,e1]
  ·exact OpOk.val rfl fun ev w9 v hR E pr=>⟨_,w9.alloc (.cells #[] 47),by simp[go_sem],RB.alloc _ _,LE.new w9 _ _ (Nat.le_trans hbs hR.size)⟩
  ·exact oq rfl fun ev w9 v hR E pr=>by
    have e1:=E.was 1 _;simp[go_sem,e1]
  ·exact oq rfl fun ev w9 v hR E pr=>by
    have e1:=E.eq pr 9 16;have cc:=(vA.next hR).cell (j:=4) (by omega);simp[lf]at cc;simp[go_sem,cc,e1]
  ·refine OpOk.val rfl fun ev w9 v hR E pr=>?_
   have e2:=E.eq pr 10 17;exact cat_ok rfl (E.get pr 8 15) ⟨s.lo,s.lc,e2,hz.lc,(HM.out _ (RB.trans _ _ _ hb hR)).l⟩ hz.l (Nat.le_trans hbs hR.size)
  ·refine OpOk.val rfl fun ev w9 v hR E pr=>?_
   have e1:=E.eq pr 1 8;have e2:=E.eq pr 3 10;have e3:=E.eq pr 5 12;have e4:=E.eq pr 7 14;obtain⟨a,c,e6,ho⟩:OwV w.heap.size n.log (ev (.tmp 18)) w9:=E.get pr 11 18;exact⟨ndV (rsO n) ⟨a,c,none,0,none,0,none,0⟩,w9,by simp[go_sem,e1,e2,e3,e4,e6,E.con,rsO],RB.refl _,a,c,rfl,ho⟩
 ·intro ev w9 v hR E hp
  obtain⟨_,_,_,_,_,_,_,_,_,_,_,_,p12,_⟩:=hp;obtain⟨a,c,e1,ho⟩:=p12;have E1:=E.at_ 12 19 rfl (by kernel_rfl) (Nat.le_of_ble_eq_true (by kernel_rfl));rw[e1]at E1;have E2:ev (.tmp 2)=.pointer (some ⟨w.heap.size+1,0,none⟩):=E.was 2 _;have vR':=VHas.next vR hR;have hg:w9.grownBy (setL w9 (w.heap.size+1) 0 (ndL (rsO n) ⟨a,c,none,0,none,0,none,0⟩)) (some (w.heap.size+1)):=gr_setL _ _ 0 _;exact⟨_,exec_box (ndL (rsO n) ⟨a,c,none,0,none,0,none,0⟩) rfl E2 E1 vR' (by kernel_rfl) (oneAll (by kernel_rfl)),a,c,vhas_box _ vR',ho.gr hg (ndT vR') (by decide),gr_rb (RB.trans _ _ _ hb hR) hg (by omega)⟩
 ·rintro v w8 ⟨a,c,hv9,ho9,hb9⟩
  simp only[List.size_toArray,List.length_cons,List.length_nil,Nat.reduceAdd,Nat.reduceSub,List.take_succ_cons,List.take_zero,putL,Act.put,List.setIfInBounds_toArray,List.set_cons_zero,List.set_cons_succ];obtain⟨q0,q1,q2,q3,q4,q5,q6,q7,q8,q9⟩:=cN hv9;go_wp2;exact bodyPost_ret (v:=ndV (rsO n) ⟨a,c,none,0,none,0,none,0⟩) (by simp[results,Tryz.results19,go_sem,q0,q1,q2,q3,q4,q5,q6,q7,q8,q9]) rfl (by rw[HN.out];exact⟨⟨a,c,none,0,none,0,none,0⟩,rfl,⟨ho9,GOwn.nil _ _ _ _ _,GOwn.nil _ _ _ _ _,GOwn.nil _ _ _ _ _,fun b e=>(by cases e),fun b e=>(by cases e),fun b e=>(by cases e)⟩,hb9⟩)
set_option maxRecDepth 100000 in
set_option maxHeartbeats 8000000 in
theorem specBeat_any (n:Nd) (s:NdS) (hz:NdZ n s) (w:World) (hM:NdM w n s):Calls Tryz.prog 17 #[ndV n s] w fun e w'=>∃ v,e=.returned v/\NetV w.heap.size (bsL n) v w'/\RB w w':=by
 have hb:=RB.alloc w (.cells (ndL n s).toArray 27);have vA:NdB _ w.heap.size n s:=ndB_new w n s;have HM:Hid (∀ W,RB w W->NdM W n s):=fun W h=>hM.next h
 clear hM;go_enter Tryz.func17,Tryz.ntmps17;refine wp_seq_h' fun K0 hK0=>?_
 go_wp2;refine hK0.out _ _ ?_;clear hK0;generalize (w.alloc _)=W at hb vA ⊢;obtain⟨c0,c1,c2,c3,c4,c5,c6,c7,c8,c9⟩:=cN vA
 go_wp2_with fail
 refine (specNodeOk_any n s hz _ (HM.out _ hb)).mono ?_;rintro e w1 ⟨rfl,hb1⟩;replace hb:=RB.trans _ _ _ hb hb1;replace vA:NdB w1 w.heap.size n s:=VHas.next vA hb1;clear hb1 c0 c1 c2 c3 c4 c5 c6 c7 c8 c9;rcases Bool.eq_false_or_eq_true (nodeR n) with hB|hB
 rotate_left
 ·rw[hB]
  have HN:Hid (bsL n=[]):=by show _ = _;simp[bsL,hB]
  clear hB;have hnv:=netV_new w w1 hb.size;have hb2:=RB.trans _ _ _ hb (RB.alloc w1 (.cells #[] 29));go_wp2;go_ret;exact⟨_,rfl,by rw[HN.out];exact hnv,hb2⟩
 rw[hB];have hBB:=nodeR_B hB;have hpe:=nodeB_peers hBB
 have HN:Hid (bsL n=if n.role=3 then beatL n else []):=by
  show _ = _
  simp only[bsL,hB,Bool.true_and,beq_iff_eq]
 have hx:n.role=3->(n.next.length:Int)=n.peers/\∀ i,i<n.next.length->1<=iOf n.next i/\iOf n.next i<=n.log.length+1:=fun h=>by
  obtain⟨h1,_,h2⟩:=nodeB_reach hBB h;exact⟨h1,fun i hi=>⟨(h2 i hi).1,(h2 i hi).2.1⟩⟩
 clear hB hBB;obtain⟨c0,c1,c2,c3,c4,c5,c6,c7,c8,c9⟩:=cN vA
 go_wp2_with fail
 refine (l11Beat_any n s hz ⟨hpe.1,hpe.2.1⟩ hx _ (HM.out _ hb)).mono ?_;rintro e w2 ⟨v,rfl,hv,hb2⟩;rw[<-HN.out]at hv;clear c0 c1 c2 c3 c4 c5 c6 c7 c8 c9 hx hpe;go_wp2;go_ret;exact⟨v,rfl,NetV.from hv hb.size,RB.trans _ _ _ hb hb2⟩
end
end Go.Proofs.YtbabakgjkloabaaGreatDoor
