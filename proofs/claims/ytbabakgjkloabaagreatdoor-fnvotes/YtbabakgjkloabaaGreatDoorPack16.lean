/-
  Helpers: Sn7, Ms6.
-/
import Derived.Test.YtbabakgjkloabaaGreatDoorPack15
set_option linter.unusedVariables false
set_option linter.unusedSimpArgs false
set_option maxRecDepth 100000
set_option maxHeartbeats 16000000
namespace Go.Proofs.YtbabakgjkloabaaGreatDoor
section
open Go Go.RowKit
attribute [local go_sem ↓] Go.wp_at_zero Go.wp_at_succ
def pU(n:Nd):Nd:=if dG n=true then T9 n else aU
def yI(n:Nd):List Ms:=if dG n=true then DA n else []
def GF(n:Nd)(l:List Ms)(w w':World)(e:Ending):Prop:=∃ s v,e=.returned (.tuple #[aX n s,v])/\NdO w' w.heap.size n s/\NetV w.heap.size l v w'/\RB w w'
theorem A6(w W:World)(h:w.heap.size<=W.heap.size):NetV w.heap.size [] (.slice (some ⟨W.heap.size,0,none⟩) 0 0) (W.alloc (.cells #[] 29)):=
 ⟨_,_,[],rfl,rfl,GOwn.from (GOwn.empty W 29 9 _) h,fun q hq=>by cases hq⟩
theorem qZ(n:Nd)(s:NdS)(hz:NdZ n s)(w:World)(hM:NdM w n s):Calls Tryz.prog 15 #[aX n s] w fun e w'=>GF (pU n) (yI n) w w' e:=by
 have hb:=rt _ _ _ (ra w (.cells (aJ n s).toArray 27)) (ra _ (.cells (aJ aU aP).toArray 27));have vA:NdB _ w.heap.size n s:=(aH w n s).next (ra _ (.cells (aJ aU aP).toArray 27));have vR:=aH (w.alloc (.cells (aJ n s).toArray 27)) aU aP;rw[World.size_alloc]at vR;have HM:Hid (∀ W,RB w W->NdM W n s):=fun W h=>hM.next h
 clear hM;go_enter Tryz.func15,Tryz.ntmps15;refine aW fun K0 hK0=>?_
 go_wp2;refine hK0.out _ _ ?_;clear hK0;generalize ((w.alloc _).alloc _)=W at hb vA vR ⊢;have hal:=ra W (.cells #[] 29);have hN0:=A6 w W hb.size;replace hb:=rt _ _ _ hb hal;replace vA:NdB (W.alloc (.cells #[] 29)) w.heap.size n s:=vn vA hal;replace vR:NdB (W.alloc (.cells #[] 29)) (w.heap.size+1) aU aP:=vn vR hal;clear hal;obtain⟨c0,c1,c2,c3,c4,c5,c6,c7,c8,c9⟩:=cN vA
 go_wp2_with fail
 generalize hWb:W.heap.size=e0 at hN0 ⊢;clear hWb;generalize (W.alloc _)=W1 at hN0 hb vA vR c0 c1 c2 c3 c4 c5 c6 c7 c8 c9 ⊢;refine (eW n s hz _ (HM.out _ hb)).mono ?_;rintro e w1 ⟨rfl,hb1⟩;replace hb:=rt _ _ _ hb hb1;replace vA:NdB w1 w.heap.size n s:=vn vA hb1;replace vR:NdB w1 (w.heap.size+1) aU aP:=vn vR hb1;replace hN0:NetV w.heap.size [] (.slice (some ⟨e0,0,none⟩) 0 0) w1:=NetV.rb _ _ _ hN0 hb1;clear hb1 c0 c1 c2 c3 c4 c5 c6 c7 c8 c9;obtain⟨c0,c1,c2,c3,c4,c5,c6,c7,c8,c9⟩:=cN vA;rcases bq (dG n) with hB|hB
 rotate_left
 ·rw[hB]
  have HN:Hid (pU n=aU):=by show _ = _;simp[pU,hB]
  have HL:Hid (yI n=[]):=by show _ = _;simp[yI,hB]
  clear hB
  go_wp2_with (first|((with_reducible refine wB 27 (.tmp 2) (.tmp 11) (w.heap.size+1) (aJ (aU) (aP)) vR ?_);intro W9 hv9 hg9)|fail)
  obtain⟨q0,q1,q2,q3,q4,q5,q6,q7,q8,q9⟩:=cN hv9;exact bodyPost_ret (v:=.tuple #[aX aU aP,.slice (some ⟨e0,0,none⟩) 0 0]) (by simp[results,Tryz.results15,go_sem,q0,q1,q2,q3,q4,q5,q6,q7,q8,q9]) rfl (by rw[HN.out,HL.out];exact⟨aP,_,rfl,lE _ _,NetV.gr hN0 hg9 vR.typed,aV hb hg9 (by omega)⟩)
 rw[hB];have hBB:=xD hB;have hpe:=dW hBB
 have hte:0<=n.term/\n.term<=100000:=by
  simp[bY]at hBB;omega
 have hco:0<=n.commit:=by
  simp[bY]at hBB;omega
 have HN0:Hid (pU n=if T8 n=true then n else if fM n.peers 1=true then eJ (iP n) else iP n):=by show _ = _;simp[pU,T9,hB,hBB]
 have HL0:Hid (yI n=if T8 n=true then [] else if fM n.peers 1=true then wJ (iP n) else eE n.id (fun k=>gG (iP n) (k:Int)) n.peers.toNat):=by show _ = _;simp[yI,DA,hB,hBB]
 clear hB hBB
 go_wp2_with fail
 clear c0 c1 c2 c3 c4 c5 c6 c7 c8 c9;refine (jA n s hz _ (HM.out _ hb)).mono ?_;rintro e w2 ⟨s2,rfl,hO,hb2⟩;have hbase:w1.heap.size<=w2.heap.size:=hb2.size;have hw1s:w.heap.size+1<w1.heap.size:=vR.lt;replace hb:=rt _ _ _ hb hb2;replace vA:NdB w2 w.heap.size n s:=vn vA hb2;replace vR:NdB w2 (w.heap.size+1) aU aP:=vn vR hb2;replace hN0:NetV w.heap.size [] (.slice (some ⟨e0,0,none⟩) 0 0) w2:=NetV.rb _ _ _ hN0 hb2;clear hb2;have hal:=ra w2 (.cells (aJ aU aP).toArray 27);have vO:=aH w2 aU aP;replace hO:=hO.next hal;replace hb:=rt _ _ _ hb hal;replace vA:NdB _ w.heap.size n s:=vn vA hal;replace vR:NdB _ (w.heap.size+1) aU aP:=vn vR hal;replace hN0:NetV w.heap.size [] (.slice (some ⟨e0,0,none⟩) 0 0) _:=NetV.rb _ _ _ hN0 hal;clear hal
 by_cases hx:n.role=3
 ·have hst:T8 n=true:=by simp[T8,hx]
  have HN:Hid (pU n=n):=by show _ = _;rw[HN0.out,hst];rfl
  have HL:Hid (yI n=[]):=by show _ = _;rw[HL0.out,hst];rfl
  have hr':(n.role==3)=true:=by simp[hx]
  clear hst hx
  go_wp2_with (first|((with_reducible refine wB 27 (.tmp 5) (.tmp 14) (w2.heap.size) (aJ (n) (s2)) vO ?_);intro Wo vO0 go1;have vO1:NdB Wo w2.heap.size n s2:=vO0;clear vO0;have vA1:NdB Wo w.heap.size n s:=VHas.grown vA go1 (fun e=>by have:=oI e;omega);have vR1:NdB Wo (w.heap.size+1) aU aP:=VHas.grown vR go1 (fun e=>by have:=oI e;omega);obtain⟨c0,c1,c2,c3,c4,c5,c6,c7,c8,c9⟩:=cN vA1;obtain⟨f0,f1,f2,f3,f4,f5,f6,f7,f8,f9⟩:=cN vO1)|((with_reducible refine wB 27 (.tmp 2) (.tmp 23) (w.heap.size+1) (aJ (n) (s2)) vR1 ?_);intro W9 hv9 hg9)|fail)
  obtain⟨q0,q1,q2,q3,q4,q5,q6,q7,q8,q9⟩:=cN hv9;exact bodyPost_ret (v:=.tuple #[aX n s2,.slice (some ⟨e0,0,none⟩) 0 0]) (by simp[results,Tryz.results15,go_sem,q0,q1,q2,q3,q4,q5,q6,q7,q8,q9]) rfl (by rw[HN.out,HL.out];exact⟨s2,_,rfl,((hO.gr go1 (bA vO) (by decide) (by decide)).gr hg9 (bA vR1) (by decide) (by decide)).from (by omega),NetV.gr (NetV.gr hN0 go1 vO.typed) hg9 vR1.typed,aV (aV hb go1 (by omega)) hg9 (by omega)⟩)
 have hr':(n.role==3)=false:=by simp[hx]
 clear hx
 by_cases hx:n.term=100000
 ·have hst:T8 n=true:=by simp[T8,hx]
  have HN:Hid (pU n=n):=by show _ = _;rw[HN0.out,hst];rfl
  have HL:Hid (yI n=[]):=by show _ = _;rw[HL0.out,hst];rfl
  have ht':(n.term==100000)=true:=by simp[hx]
  clear hst hx
  go_wp2_with (first|((with_reducible refine wB 27 (.tmp 5) (.tmp 14) (w2.heap.size) (aJ (n) (s2)) vO ?_);intro Wo vO0 go1;have vO1:NdB Wo w2.heap.size n s2:=vO0;clear vO0;have vA1:NdB Wo w.heap.size n s:=VHas.grown vA go1 (fun e=>by have:=oI e;omega);have vR1:NdB Wo (w.heap.size+1) aU aP:=VHas.grown vR go1 (fun e=>by have:=oI e;omega);obtain⟨c0,c1,c2,c3,c4,c5,c6,c7,c8,c9⟩:=cN vA1;obtain⟨f0,f1,f2,f3,f4,f5,f6,f7,f8,f9⟩:=cN vO1)|((with_reducible refine wB 27 (.tmp 2) (.tmp 23) (w.heap.size+1) (aJ (n) (s2)) vR1 ?_);intro W9 hv9 hg9)|fail)
  obtain⟨q0,q1,q2,q3,q4,q5,q6,q7,q8,q9⟩:=cN hv9;exact bodyPost_ret (v:=.tuple #[aX n s2,.slice (some ⟨e0,0,none⟩) 0 0]) (by simp[results,Tryz.results15,go_sem,q0,q1,q2,q3,q4,q5,q6,q7,q8,q9]) rfl (by rw[HN.out,HL.out];exact⟨s2,_,rfl,((hO.gr go1 (bA vO) (by decide) (by decide)).gr hg9 (bA vR1) (by decide) (by decide)).from (by omega),NetV.gr (NetV.gr hN0 go1 vO.typed) hg9 vR1.typed,aV (aV hb go1 (by omega)) hg9 (by omega)⟩)
 have ht':(n.term==100000)=false:=by simp[hx]
 have hst:T8 n=false:=by simp only[T8,hr',ht',Bool.or_false]
 have HN1:Hid (pU n=if fM n.peers 1=true then eJ (iP n) else iP n):=by show _ = _;rw[HN0.out,hst];rfl
 have HL1:Hid (yI n=if fM n.peers 1=true then wJ (iP n) else eE n.id (fun k=>gG (iP n) (k:Int)) n.peers.toNat):=by show _ = _;rw[HL0.out,hst];rfl
 have hwt:IntKind.i64.wrap (n.term+1)=n.term+1:=wi
 clear hx hst HN0 HL0
 go_wp2_with (first|((with_reducible refine wB 27 (.tmp 5) (.tmp 14) (w2.heap.size) (aJ (n) (s2)) vO ?_);intro Wo vO0 go1;have vO1:NdB Wo w2.heap.size n s2:=vO0;clear vO0;have vA1:NdB Wo w.heap.size n s:=VHas.grown vA go1 (fun e=>by have:=oI e;omega);have vR1:NdB Wo (w.heap.size+1) aU aP:=VHas.grown vR go1 (fun e=>by have:=oI e;omega);obtain⟨c0,c1,c2,c3,c4,c5,c6,c7,c8,c9⟩:=cN vA1;obtain⟨f0,f1,f2,f3,f4,f5,f6,f7,f8,f9⟩:=cN vO1)|((with_reducible refine wN 2 (.tmp 28) (.tmp 27) (w2.heap.size) 2 (.int .i64 (n.term+1)) (t1 n) (s2) vO1 ?_);intro Wa va ga;clear f0 f1 f2 f3 f4 f5 f6 f7 f8 f9 c0 c1 c2 c3 c4 c5 c6 c7 c8 c9;have an:NdB Wa w.heap.size n s:=VHas.grown vA1 ga (fun e=>by have:=oI e;omega);obtain⟨c0,c1,c2,c3,c4,c5,c6,c7,c8,c9⟩:=cN an;obtain⟨f0,f1,f2,f3,f4,f5,f6,f7,f8,f9⟩:=VHas.c10 va;simp[lf,t1]at f0 f1 f2 f3 f4 f5 f6 f7 f8 f9)|((with_reducible refine wN 2 (.tmp 31) (.tmp 30) (w2.heap.size) 3 (.int .i64 n.id) (t2 n) (s2) va ?_);intro Wb vb gb;clear f0 f1 f2 f3 f4 f5 f6 f7 f8 f9 c0 c1 c2 c3 c4 c5 c6 c7 c8 c9;have bn:NdB Wb w.heap.size n s:=VHas.grown an gb (fun e=>by have:=oI e;omega);obtain⟨c0,c1,c2,c3,c4,c5,c6,c7,c8,c9⟩:=cN bn;obtain⟨f0,f1,f2,f3,f4,f5,f6,f7,f8,f9⟩:=VHas.c10 vb;simp[lf,t2]at f0 f1 f2 f3 f4 f5 f6 f7 f8 f9)|((with_reducible refine wN 2 (.tmp 32) (.const (.int .i64 2)) (w2.heap.size) 5 (.int .i64 2) (t3 n) (s2) vb ?_);intro Wc vc gc;clear f0 f1 f2 f3 f4 f5 f6 f7 f8 f9 c0 c1 c2 c3 c4 c5 c6 c7 c8 c9;have cn:NdB Wc w.heap.size n s:=VHas.grown bn gc (fun e=>by have:=oI e;omega);obtain⟨c0,c1,c2,c3,c4,c5,c6,c7,c8,c9⟩:=cN cn;obtain⟨f0,f1,f2,f3,f4,f5,f6,f7,f8,f9⟩:=VHas.c10 vc;simp[lf,t3]at f0 f1 f2 f3 f4 f5 f6 f7 f8 f9;have vc2:NdB (Wc.alloc (.cells #[.int .i64 n.id] 2)) w2.heap.size (t3 n) s2:=vn vc (ra _ _))|((with_reducible refine wN 25 (.tmp 36) (.tmp 35) (w2.heap.size) 7 (.slice (some ⟨Wc.heap.size,0,none⟩) 1 1) (iP n) (⟨s2.lo,s2.lc,some ⟨Wc.heap.size,0,none⟩,1,s2.no,s2.nc,s2.mo,s2.mc⟩) vc2 ?_);intro Wd vd gd;clear f0 f1 f2 f3 f4 f5 f6 f7 f8 f9 c0 c1 c2 c3 c4 c5 c6 c7 c8 c9;obtain⟨f0,f1,f2,f3,f4,f5,f6,f7,f8,f9⟩:=VHas.c10 vd;simp[lf,iP]at f0 f1 f2 f3 f4 f5 f6 f7 f8 f9)|fail)
 have hal2:=ra Wc (.cells #[.int .i64 n.id] 2);have hs0:w2.heap.size<(w2.alloc (.cells (aJ aU aP).toArray 27)).heap.size:=vO.lt
 have hs1:w2.heap.size+1<=Wo.heap.size:=by
  have h:=go1.size;rw[World.size_alloc]at h;exact h
 have hs2:=ga.size;have hs3:=gb.size;have hs4:=gc.size;have hbd:=aV (rt _ _ _ (aV (aV (aV (aV hb go1 (by omega)) ga (by omega)) gb (by omega)) gc (by omega)) hal2) gd (by omega);have vRd:NdB Wd (w.heap.size+1) aU aP:=VHas.grown (vn (VHas.grown (VHas.grown (VHas.grown vR1 ga (fun e=>by have:=oI e;omega)) gb (fun e=>by have:=oI e;omega)) gc (fun e=>by have:=oI e;omega)) hal2) gd (fun e=>by have:=oI e;omega);have vAd:NdB Wd w.heap.size n s:=VHas.grown (vn cn hal2) gd (fun e=>by have:=oI e;omega);have hNd:NetV w.heap.size [] (.slice (some ⟨e0,0,none⟩) 0 0) Wd:=NetV.gr (NetV.rb _ _ _ (NetV.gr (NetV.gr (NetV.gr (NetV.gr hN0 go1 vO.typed) ga vO1.typed) gb va.typed) gc vb.typed) hal2) gd vc2.typed;have hOd:=(((((hO.gr go1 (bA vO) (by decide) (by decide)).gr ga (bA vO1) (by decide) (by decide)).gr gb (bA va) (by decide) (by decide)).gr gc (bA vb) (by decide) (by decide)).next hal2).gr gd (bA vc2) (by decide) (by decide);have hV0:OwI (Wc.alloc (.cells #[.int .i64 n.id] 2)) Wc.heap.size (some ⟨Wc.heap.size,0,none⟩) 1 [n.id]:=GOwn.lit Wc 2 1 1 [.int .i64 n.id] (by decide) rfl;have hV1:OwI Wd w1.heap.size (some ⟨Wc.heap.size,0,none⟩) 1 [n.id]:=(hV0.gr gd (bA vc2) (by decide)).from (by omega)
 have hOs:NdO Wd w1.heap.size (iP n) ⟨s2.lo,s2.lc,some ⟨Wc.heap.size,0,none⟩,1,s2.no,s2.nc,s2.mo,s2.mc⟩:=⟨hOd.l,hV1,hOd.x,hOd.m,fun b e q=>by
  have h1:Wc.heap.size=b:=oI e;have h2:=(hO.x.at q).2;rw[World.size_alloc]at h2;omega,fun b e q=>by
  have h1:Wc.heap.size=b:=oI e;have h2:=(hO.m.at q).2;rw[World.size_alloc]at h2
  omega,hOd.xm⟩
 have hzs:NdZ (iP n) ⟨s2.lo,s2.lc,some ⟨Wc.heap.size,0,none⟩,1,s2.no,s2.nc,s2.mo,s2.mc⟩:=⟨hz.l,by simp[iP],hz.x,hz.m,hOs.K.l,hOs.K.v,hOs.K.x,hOs.K.m,hz.tx⟩
 clear hal2 hs0 hs1 hs2 hs3 hs4 hb vR hOd hV0 hV1 hO ga gb gc gd go1 vO vO1 vA vA1 vR1 va vb vc vc2 an bn cn hN0 f0 f1 f2 f3 f4 f5 f6 f7 f8 f9;refine (lI (iP n) ⟨s2.lo,s2.lc,some ⟨Wc.heap.size,0,none⟩,1,s2.no,s2.nc,s2.mo,s2.mc⟩ hzs.v _).mono ?_;rintro e w5 ⟨rfl,hb5⟩;have hb:=rt _ _ _ hbd hb5;have vO:NdB w5 w2.heap.size (iP n) ⟨s2.lo,s2.lc,some ⟨Wc.heap.size,0,none⟩,1,s2.no,s2.nc,s2.mo,s2.mc⟩:=vn vd hb5;have vR:NdB w5 (w.heap.size+1) aU aP:=vn vRd hb5;have vA:NdB w5 w.heap.size n s:=vn vAd hb5;have hN5:NetV w.heap.size [] (.slice (some ⟨e0,0,none⟩) 0 0) w5:=NetV.rb _ _ _ hNd hb5;have hO:=hOs.next hb5;have hbs5:w1.heap.size<=w5.heap.size:=Nat.le_trans hbase (Nat.le_of_lt vO.lt);have hmj:fM (iP n).peers (iP n).votes.length=fM n.peers 1:=rfl;rw[hmj];have hpN:Hid (1<=(iP n).peers/\(iP n).peers<=5):=⟨hpe.1,hpe.2.1⟩
 have hiN:Hid (0<=(iP n).id/\(iP n).id<(iP n).peers):=hpe.2.2;have hcN:Hid (0<=(iP n).commit):=hco;have htN:Hid (0<(iP n).term):=by show 0<n.term+1;omega
 have hidN:Hid ((iP n).id=n.id):=rfl;have hteN:Hid ((iP n).term=n.term+1):=rfl;have hloN:Hid ((iP n).log=n.log):=rfl;clear hmj hbd hb5 vd vRd vAd hNd hOs hr' ht' hwt;generalize iP n=N at vO hO hzs HN1 HL1 hpN hiN hcN htN hidN hteN hloN ⊢;generalize (⟨s2.lo,s2.lc,some ⟨Wc.heap.size,0,none⟩,1,s2.no,s2.nc,s2.mo,s2.mc⟩:NdS)=s3 at vO hO hzs ⊢;obtain⟨f0,f1,f2,f3,f4,f5,f6,f7,f8,f9⟩:=cN vO;rcases bq (fM n.peers 1) with hm|hm
 ·rw[hm]
  have HN:Hid (pU n=eJ N):=by show _ = _;rw[HN1.out,hm];rfl
  have HL:Hid (yI n=wJ N):=by show _ = _;rw[HL1.out,hm];rfl
  clear hm HN1 HL1 hN5
  go_wp2_with fail
  refine (pL N s3 hzs w2.heap.size w1.heap.size hpN.out hiN.out hcN.out htN.out _ hbs5 vO hO).mono ?_;rintro e w9 ⟨v4,s4,rfl,vL,hOL,hVL,hGL⟩;have vR9:NdB w9 (w.heap.size+1) aU aP:=VHas.of_block vR (hGL.block _ vR.lt (by omega) (fun q=>by have h1:=(GOwn.at hO.l (by rw[bK];exact q)).1;omega));have hb9:RB w w9:=hGL.new hb (by omega) (fun k q=>by have h1:=(GOwn.at hO.l (by rw[bK];exact q)).1;omega);have hV:NetV w.heap.size (wJ N) v4 w9:=NetV.from hVL hb.size
  clear f0 f1 f2 f3 f4 f5 f6 f7 f8 f9 hO vO hGL hVL vR;generalize hLL:eJ N=M at vL hOL HN;clear hLL;obtain⟨f0,f1,f2,f3,f4,f5,f6,f7,f8,f9⟩:=cN vL
  go_wp2_with (first|((with_reducible refine wB 27 (.tmp 2) (.tmp 40) (w.heap.size+1) (aJ (M) (s4)) vR9 ?_);intro W9 hv9 hg9)|fail)
  obtain⟨q0,q1,q2,q3,q4,q5,q6,q7,q8,q9⟩:=cN hv9;exact bodyPost_ret (v:=.tuple #[aX M s4,v4]) (by simp[results,Tryz.results15,go_sem,q0,q1,q2,q3,q4,q5,q6,q7,q8,q9]) rfl (by rw[HN.out,HL.out];exact⟨s4,v4,rfl,(hOL.gr hg9 (bA vR9) (by decide) (by decide)).from (by omega),NetV.gr hV hg9 vR9.typed,aV hb9 hg9 (by omega)⟩)
 rw[hm];have HN:Hid (pU n=N):=by show _ = _;rw[HN1.out,hm];rfl
 have HL:Hid (yI n=eE n.id (fun k=>gG N (k:Int)) n.peers.toNat):=by show _ = _;rw[HL1.out,hm];rfl
 clear hm HN1 HL1;obtain⟨P,hP⟩:∃ P:Nat,n.peers=(P:Int):=⟨n.peers.toNat,by omega⟩
 have hP5:P<=5:=by omega
 have hPt:n.peers.toNat=P:=by omega
 rw[hPt]at HL;replace hP:Hid (n.peers=(P:Int)):=hP;obtain⟨c0,c1,c2,c3,c4,c5,c6,c7,c8,c9⟩:=cN vA;go_wp2;clear f0 f1 f2 f3 f4 f5 f6 f7 f8 f9 c0 c1 c2 c3 c4 c5 c6 c7 c8 c9 hpe hPt
 go_loopw [4,6] (fun x4 x6 wr=>∃ k:Nat,k<=P/\x6=.int .i64 (k:Int)/\NetV w.heap.size (eE n.id (fun k=>gG N (k:Int)) k) x4 wr/\NdB wr w.heap.size n s/\NdB wr w2.heap.size N s3/\NdB wr (w.heap.size+1) aU aP/\NdO wr w1.heap.size N s3/\RB w wr) (fun _ x _=>P-(intOf x).toNat)
 case atStart=>exact⟨0,Nat.zero_le _,rfl,hN5,vA,vO,vR,hO,hb⟩
 case round=>
  obtain⟨k,hk,rfl,⟨ao,cap,l,rfl,hl,hN⟩,vA9,vO9,vR9,hO9,hRW⟩:=hrel;clear vA vO vR hO hb hN5;obtain⟨c0,c1,c2,c3,c4,c5,c6,c7,c8,c9⟩:=cN vA9;obtain⟨f0,f1,f2,f3,f4,f5,f6,f7,f8,f9⟩:=cN vO9
  by_cases hlt:k<P
  rotate_left
  ·obtain rfl:k=P:=by omega
   have hge:¬ (k:Int)<n.peers:=by have:=hP.out;omega
   clear c0 c2 c3 c4 c5 c6 c7 c8 c9
   go_wp2_with (first|((with_reducible refine wB 27 (.tmp 2) (.tmp 67) (w.heap.size+1) (aJ (N) (s3)) vR9 ?_);intro W9 hv9 hg9)|fail)
   obtain⟨q0,q1,q2,q3,q4,q5,q6,q7,q8,q9⟩:=cN hv9;exact bodyPost_ret (v:=.tuple #[aX N s3,.slice ao l.length cap]) (by simp[results,Tryz.results15,go_sem,q0,q1,q2,q3,q4,q5,q6,q7,q8,q9]) rfl (by rw[HN.out,HL.out];exact⟨s3,_,rfl,(hO9.gr hg9 (bA vR9) (by decide) (by decide)).from (by omega),NetV.gr ⟨ao,cap,l,rfl,hl,hN⟩ hg9 vR9.typed,aV hRW hg9 (by omega)⟩)
  have hlt':(k:Int)<n.peers:=by have:=hP.out;omega
  have hwk:IntKind.i64.wrap ((k:Int)+1)=(k:Int)+1:=wi
  by_cases hid:(k:Int)=n.id
  ·have e:Hid (eE n.id (fun k=>gG N (k:Int)) (k+1)=eE n.id (fun k=>gG N (k:Int)) k):=by show _ = _;simp only[eE];rw[if_pos hid]
   have hid':((k:Int) != n.id)=false:=by simp[hid]
   clear hid;go_wp2
   go_roundw
   case rel=>exact⟨k+1,by omega,by go_num,⟨ao,cap,l,rfl,hl.trans e.out.symm,hN⟩,vA9,vO9,vR9,hO9,hRW⟩
   case measure=>first|(simp[intOf];omega)|(simp[intOf];done)
  have hid':((k:Int) != n.id)=true:=by simp[hid]
  have hll:l.length<=1000:=by
   have h1:=gK n.id (fun k=>gG N (k:Int)) k;rw[<-hl,List.length_map]at h1;omega
  have e:Hid (eE n.id (fun k=>gG N (k:Int)) (k+1)=eE n.id (fun k=>gG N (k:Int)) k++[gG N (k:Int)]):=by show _ = _;simp only[eE];rw[if_neg hid]
  replace hl:Hid _:=hl;clear hid
  go_wp2_with fail
  clear f0 f1 f2 f3 f4 f5 f6 f7 f8 f9 c0 c1 c2 c3 c4 c5 c6 c7 c8 c9;have hd:RB wr wr.drew:=(Below.refl _ _).drew;replace hRW:=rt _ _ _ hRW hd;replace vA9:NdB wr.drew w.heap.size n s:=vn vA9 hd;replace vO9:NdB wr.drew w2.heap.size N s3:=vn vO9 hd;replace vR9:NdB wr.drew (w.heap.size+1) aU aP:=vn vR9 hd;replace hO9:=hO9.next hd;replace hN:=hN.next hd;have hbs:=hRW.size;clear hd
  refine kD (by kernel_rfl) (by kernel_rfl) RB rr rt
   [isV (.slice ao l.length cap),isV (.pointer (some ⟨w2.heap.size,2,none⟩)),isV (.int .i64 N.term),isV (.pointer (some ⟨w.heap.size,0,none⟩)),isV (.int .i64 n.id),isV (.int .i64 (k:Int)),isV (.pointer (some ⟨w.heap.size,4,none⟩)),isV (.slice s.lo n.log.length s.lc),isV (.int .i64 (n.log.length:Int)),isV (.pointer (some ⟨w.heap.size,4,none⟩)),isV (.slice s.lo n.log.length s.lc),isV (.int .i64 (bM n.log)),MgV w.heap.size (gG N (k:Int)),Mg1 w.heap.size (gG N (k:Int))]
   ⟨iR,iR,iR,iR,iR,iR,iR,iR,iR,iR,iR,iR,MgV.rb,Mg1.rb,trivial⟩ (by kernel_rfl) _ _ rfl rfl (by kernel_rfl) (by kernel_rfl) (by kernel_rfl) ?_
   (fun v u w9=>NetV w.heap.size (l.map (·.m)++[(gG N (k:Int))]) u w9/\NdB w9 w.heap.size n s/\NdB w9 w2.heap.size N s3/\NdB w9 (w.heap.size+1) aU aP/\NdO w9 w1.heap.size N s3/\RB w w9) ?_ ?_
  ·simp only[List.size_toArray,List.length_cons,List.length_nil,Nat.reduceAdd,Nat.reduceSub,List.take_succ_cons,List.take_zero]
   refine⟨?_,?_,?_,?_,?_,?_,?_,?_,?_,?_,?_,?_,?_,?_,trivial⟩
   ·exact ow 4
   ·exact ow 5
   ·exact oc 1 53 fun _ hR=>(vO9.next hR).cell (j:=2) (by omega)
   ·exact ow 1
   ·exact oc 3 55 fun _ hR=>(vA9.next hR).cell (j:=0) (by omega)
   ·exact ow 6
   ·exact ow 1
   ·exact oc 6 58 fun _ hR=>(vA9.next hR).cell (j:=4) (by omega)
   ·exact o1 7 59
   ·exact ow 1
   ·exact oc 9 61 fun _ hR=>(vA9.next hR).cell (j:=4) (by omega)
   ·exact OpOk.ret _ (fun _=>rfl) fun ev w9 v hR E pr=>by
     have e1:=E.eq pr 10 62;refine⟨43,#[.slice s.lo n.log.length s.lc],by simp[go_sem,gv,e1,E.fn],?_⟩;exact oC s.lo s.lc n.log hz.l _ (HM.out _ (rt _ _ _ hRW hR)).l
   ·refine OpOk.val rfl fun ev w9 v hR E pr=>?_
    have e1:=E.eq pr 2 54;have e2:=E.eq pr 4 56;have e3:=E.eq pr 5 57;have e4:=E.eq pr 8 60;have e5:=E.eq pr 11 63;exact⟨eS (gG N (k:Int)) none 0,w9,by simp[go_sem,e1,e2,e3,e4,e5,E.con,gG,hidN.out,hloN.out],rr _,none,0,rfl,GOwn.nil _ _ _ _ _⟩
   ·refine OpOk.val rfl fun ev w9 v hR E pr=>?_
    obtain⟨a,c,e1,ho⟩:MgV w.heap.size (gG N (k:Int)) (ev (.tmp 64)) w9:=E.get pr 12 64;exact⟨.slice (some ⟨w9.heap.size,0,none⟩) 1 1,w9.alloc (.cells (bZ (gG N (k:Int)) a c).toArray 29),by simp[go_sem,e1],ra _ _,_,a,c,rfl,bJ w9 (gG N (k:Int)) a c,ho.next (ra _ _)⟩
  ·intro ev w9 v hR E hp
   obtain⟨p0,_,_,_,_,_,_,_,_,_,_,_,_,p13,_⟩:=hp;have E0:=E.at_ 0 52 rfl (by kernel_rfl) (nb (by kernel_rfl));have E1:=E.at_ 13 65 rfl (by kernel_rfl) (nb (by kernel_rfl));have hN9:=hN.next hR;refine iY (xF rfl (E0.trans p0) hN9 (by rw[E1];exact p13) hll (Nat.le_trans hbs hR.size)) ?_;rintro u w8 ⟨hv,hg⟩;have hT:=fun x e=>hN9.o.typed (x:=x) e
   exact⟨hv,VHas.gr (vn vA9 hR) hg hT (by decide),VHas.gr (vn vO9 hR) hg hT (by decide),VHas.gr (vn vR9 hR) hg hT (by decide),(hO9.next hR).gr hg hT (by decide) (by decide),jO (rt _ _ _ hRW hR) hg (fun x e=>(hN9.o.at e).1)⟩
  ·rintro v u w9 ⟨hv9,xA,xO,xR,xM,hR9⟩
   simp only[List.size_toArray,List.length_cons,List.length_nil,Nat.reduceAdd,Nat.reduceSub,List.take_succ_cons,List.take_zero,bF,Nat.zero_add,Act.put,sY,sZ,ss];refine⟨u,by simp[go_sem],?_⟩;rw[hl.out,<-e.out]at hv9;clear vA9 vO9 vR9 hO9 hN hRW;go_wp2
   go_roundw
   case rel=>exact⟨k+1,by omega,by go_num,hv9,xA,xO,xR,xM,hR9⟩
   case measure=>first|(simp[intOf];omega)|(simp[intOf];done)
def fU(n:Nd)(fr:Nat)(x:Int):Nd:=⟨n.id,n.peers,n.term,n.vote,n.log,n.role,n.commit,n.votes,n.next.set fr x,n.mat⟩
def eB(n:Nd)(fr:Nat)(x:Int):Nd:=⟨n.id,n.peers,n.term,n.vote,n.log,n.role,n.commit,n.votes,n.next,n.mat.set fr x⟩
def yP(n:Nd):Nd:=⟨n.id,n.peers,n.term,n.vote,n.log,n.role,lH n,n.votes,n.next,n.mat⟩
def rD(n:Nd)(m:Ms)(fr:Nat):Int:=max (min (aT n.next fr-2) m.index+1) (aT n.mat fr+1)
def dL(n:Nd)(m:Ms)(fr:Nat):Int:=if m.index<=n.log.length then max (aT n.mat fr) m.index else aT n.mat fr
def jU(n:Nd)(m:Ms)(fr:Nat):Nd:=
 if n.role=3/\m.term=n.term then
  (if m.yes then yP (fU (eB n fr (dL n m fr)) fr (dL n m fr+1)) else fU n fr (rD n m fr))
 else n
theorem DZ(n:Nd)(fr:Nat)(x:Int)(s:NdS):aJ (fU n fr x) s=aJ n s:=by simp[fU]
theorem EA(n:Nd)(fr:Nat)(x:Int)(s:NdS):aJ (eB n fr x) s=aJ n s:=by simp[eB]
theorem J8(n:Nd)(fr:Nat)(x:Int)(s:NdS):aX (fU n fr x) s=aX n s:=by simp[fU]
theorem BC(n:Nd)(fr:Nat)(x:Int)(s:NdS):aX (eB n fr x) s=aX n s:=by simp[eB]
theorem BD(n:Nd)(fr:Nat)(x y:Int)(s:NdS):aJ (yP (fU (eB n fr x) fr y)) s=(aJ n s).set 6 (.int .i64 (lH (fU (eB n fr x) fr y))):=by simp[yP,fU,eB]
theorem NdO.xv{w:World}{base:Nat}{n:Nd}{lo vo mo:Option Addr}{lc vc gx nc mc:Nat}(h:NdO w base n ⟨lo,lc,vo,vc,some ⟨gx,0,none⟩,nc,mo,mc⟩){fr:Nat}(hf:fr<n.next.length):VHas w gx 2 (n.next.length*1) (lf (cU n.next)):=by
 obtain⟨g',e',_,hv⟩:=h.x.vh (by show 0<n.next.length;omega);cases e';exact hv
theorem NdO.setX{w:World}{base:Nat}{n:Nd}{lo vo:Option Addr}{lc vc gx nc mc:Nat}{mo:Option Addr}(h:NdO w base n ⟨lo,lc,vo,vc,some ⟨gx,0,none⟩,nc,mo,mc⟩)(fr:Nat)(hf:fr<n.next.length)(x:Int):NdO (w.setCell ⟨gx,fr,none⟩ (.int .i64 x)) base (fU n fr x) ⟨lo,lc,vo,vc,some ⟨gx,0,none⟩,nc,mo,mc⟩/\Ch base w (w.setCell ⟨gx,fr,none⟩ (.int .i64 x)):=by
 obtain⟨g',e',hgb,hv⟩:=h.x.vh (by show 0<n.next.length;omega);cases e';have hg:=aC w gx fr (.int .i64 x);have hgt:∀ y,some gx=some y->aG w y 2:=fun y e=>by cases e;exact hv.typed
 refine⟨⟨h.l.gr hg hgt (by decide),h.v.apart hg (fun e=>h.vx gx e rfl),h.x.set fr hf x,h.m.apart hg (fun e=>h.xm gx rfl e),h.vx,h.vm,h.xm⟩,Ch.of_gr hg hgb (.inl hv.typed)⟩
theorem NdO.setM{w:World}{base:Nat}{n:Nd}{lo vo no:Option Addr}{lc vc gm nc mc:Nat}(h:NdO w base n ⟨lo,lc,vo,vc,no,nc,some ⟨gm,0,none⟩,mc⟩)(fr:Nat)(hf:fr<n.mat.length)(x:Int):NdO (w.setCell ⟨gm,fr,none⟩ (.int .i64 x)) base (eB n fr x) ⟨lo,lc,vo,vc,no,nc,some ⟨gm,0,none⟩,mc⟩/\Ch base w (w.setCell ⟨gm,fr,none⟩ (.int .i64 x)):=by
 obtain⟨g',e',hgb,hv⟩:=h.m.vh (by show 0<n.mat.length;omega);cases e';have hg:=aC w gm fr (.int .i64 x);have hgt:∀ y,some gm=some y->aG w y 2:=fun y e=>by cases e;exact hv.typed
 refine⟨⟨h.l.gr hg hgt (by decide),h.v.apart hg (fun e=>h.vm gm e rfl),h.x.apart hg (fun e=>h.xm gm e rfl),h.m.set fr hf x,h.vx,h.vm,h.xm⟩,Ch.of_gr hg hgb (.inl hv.typed)⟩
theorem tR(n:Nd)(s:NdS)(hz:NdZ n s)(base fr:Nat)(hC:0<=n.commit)(m:Ms)(eo:Option Addr)(ec:Nat)(hfr:m.frm=(fr:Int))(hx:n.role=3->fr<n.next.length/\fr<n.mat.length/\1<=aT n.next fr/\aT n.next fr<=2000000/\0<=aT n.mat fr/\aT n.mat fr<=2000000)(hix:-9223372036854775808<=m.index/\m.index<=9223372036854775807)(w:World)(hbs:base<=w.heap.size)(hO:NdO w base n s):
  Calls Tryz.prog 36 #[aX n s,eS m eo ec] w fun e w'=>e=.returned (.tuple #[aX (jU n m fr) s,.slice none 0 0])/\NdO w' base (jU n m fr) s/\Ch base w w':=by
 have HFR:Hid (m.frm=(fr:Int)):=hfr;clear hfr
 by_cases hr:n.role=3
 rotate_left
 ·have hr':(n.role != 3)=true:=by simp[hr]
  have HN1:Hid (jU n m fr=n):=by show _ = _;simp[jU,hr]
  clear hr hx;have hb:=rt _ _ _ (rt _ _ _ (ra w (.cells (aJ n s).toArray 27)) (ra _ (.cells (bZ m eo ec).toArray 29))) (ra _ (.cells (aJ aU aP).toArray 27));have vA:NdB _ w.heap.size n s:=((aH w n s).next (ra _ (.cells (bZ m eo ec).toArray 29))).next (ra _ (.cells (aJ aU aP).toArray 27));have vM:MsB _ (w.alloc (.cells (aJ n s).toArray 27)).heap.size m eo ec:=(bJ (w.alloc (.cells (aJ n s).toArray 27)) m eo ec).next (ra _ (.cells (aJ aU aP).toArray 27));have vR:=aH ((w.alloc (.cells (aJ n s).toArray 27)).alloc (.cells (bZ m eo ec).toArray 29)) aU aP;rw[World.size_alloc]at vM;rw[World.size_alloc,World.size_alloc]at vR;replace hO:=hO.next hb;have hch:Ch base w _:=Ch.of_rb hb;clear hb;go_enter Tryz.func36,Tryz.ntmps36;refine fQ fun K0 hK0=>?_
  go_wp2;refine hK0 _ _ ?_;clear hK0;generalize (((w.alloc _).alloc _).alloc _)=W at hch vA vM vR hO ⊢;obtain⟨d0,d1,d2,d3,d4,d5,d6,d7,d8,d9⟩:=VHas.c10 vA;obtain⟨e0,e1,e2,e3,e4,e5,e6,e7,e8⟩:=VHas.c9 vM;simp[lf]at d0 d1 d2 d3 d4 d5 d6 d7 d8 d9 e0 e1 e2 e3 e4 e5 e6 e7 e8
  go_wp2_with (first|((with_reducible refine wB 27 (.tmp 4) (.tmp 18) (w.heap.size+1+1) (aJ (n) (s)) vR ?_);intro W9 hv9 hg9)|fail)
  obtain⟨q0,q1,q2,q3,q4,q5,q6,q7,q8,q9⟩:=cN hv9;exact bodyPost_ret (v:=.tuple #[aX n s,.slice none 0 0]) (by simp[results,Tryz.results36,go_sem,q0,q1,q2,q3,q4,q5,q6,q7,q8,q9]) rfl ⟨by rw[HN1.out],by rw[HN1.out];exact hO.gr hg9 (bA vR) (by decide) (by decide),hch.box hg9 (by omega)⟩
 have hr':(n.role != 3)=false:=by simp[hr]
 by_cases ht:m.term=n.term
 rotate_left
 ·have ht':(m.term != n.term)=true:=by simp[ht]
  have HN1:Hid (jU n m fr=n):=by show _ = _;simp[jU,ht]
  clear hr ht hx;have hb:=rt _ _ _ (rt _ _ _ (ra w (.cells (aJ n s).toArray 27)) (ra _ (.cells (bZ m eo ec).toArray 29))) (ra _ (.cells (aJ aU aP).toArray 27));have vA:NdB _ w.heap.size n s:=((aH w n s).next (ra _ (.cells (bZ m eo ec).toArray 29))).next (ra _ (.cells (aJ aU aP).toArray 27));have vM:MsB _ (w.alloc (.cells (aJ n s).toArray 27)).heap.size m eo ec:=(bJ (w.alloc (.cells (aJ n s).toArray 27)) m eo ec).next (ra _ (.cells (aJ aU aP).toArray 27));have vR:=aH ((w.alloc (.cells (aJ n s).toArray 27)).alloc (.cells (bZ m eo ec).toArray 29)) aU aP;rw[World.size_alloc]at vM;rw[World.size_alloc,World.size_alloc]at vR;replace hO:=hO.next hb;have hch:Ch base w _:=Ch.of_rb hb;clear hb;go_enter Tryz.func36,Tryz.ntmps36;refine fQ fun K0 hK0=>?_
  go_wp2;refine hK0 _ _ ?_;clear hK0;generalize (((w.alloc _).alloc _).alloc _)=W at hch vA vM vR hO ⊢;obtain⟨d0,d1,d2,d3,d4,d5,d6,d7,d8,d9⟩:=VHas.c10 vA;obtain⟨e0,e1,e2,e3,e4,e5,e6,e7,e8⟩:=VHas.c9 vM;simp[lf]at d0 d1 d2 d3 d4 d5 d6 d7 d8 d9 e0 e1 e2 e3 e4 e5 e6 e7 e8
  go_wp2_with (first|((with_reducible refine wB 27 (.tmp 4) (.tmp 18) (w.heap.size+1+1) (aJ (n) (s)) vR ?_);intro W9 hv9 hg9)|fail)
  obtain⟨q0,q1,q2,q3,q4,q5,q6,q7,q8,q9⟩:=cN hv9;exact bodyPost_ret (v:=.tuple #[aX n s,.slice none 0 0]) (by simp[results,Tryz.results36,go_sem,q0,q1,q2,q3,q4,q5,q6,q7,q8,q9]) rfl ⟨by rw[HN1.out],by rw[HN1.out];exact hO.gr hg9 (bA vR) (by decide) (by decide),hch.box hg9 (by omega)⟩
 have ht':(m.term != n.term)=false:=by simp[ht]
 obtain⟨hf1,hf2,hx1,hx2,hm1,hm2⟩:=hx hr;have HN1:Hid (jU n m fr=(if m.yes then yP (fU (eB n fr (dL n m fr)) fr (dL n m fr+1)) else fU n fr (rD n m fr))):=by show _ = _;simp[jU,hr,ht]
 clear hx hr ht;have hzl:=hz.l;have hzm:=hz.m;obtain⟨lo,lc,vo,vc,no,nc,mo,mc⟩:=s;obtain⟨gx,ex,_,_⟩:=hO.x.vh (by show 0<n.next.length;omega);simp only at ex;subst ex;obtain⟨gm,em,_,_⟩:=hO.m.vh (by show 0<n.mat.length;omega);simp only at em;subst em;have hb:=rt _ _ _ (rt _ _ _ (ra w (.cells (aJ n ⟨lo,lc,vo,vc,some ⟨gx,0,none⟩,nc,some ⟨gm,0,none⟩,mc⟩).toArray 27)) (ra _ (.cells (bZ m eo ec).toArray 29))) (ra _ (.cells (aJ aU aP).toArray 27));have vA:NdB _ w.heap.size n ⟨lo,lc,vo,vc,some ⟨gx,0,none⟩,nc,some ⟨gm,0,none⟩,mc⟩:=((aH w n ⟨lo,lc,vo,vc,some ⟨gx,0,none⟩,nc,some ⟨gm,0,none⟩,mc⟩).next (ra _ (.cells (bZ m eo ec).toArray 29))).next (ra _ (.cells (aJ aU aP).toArray 27));have vM:MsB _ (w.alloc (.cells (aJ n ⟨lo,lc,vo,vc,some ⟨gx,0,none⟩,nc,some ⟨gm,0,none⟩,mc⟩).toArray 27)).heap.size m eo ec:=(bJ (w.alloc (.cells (aJ n ⟨lo,lc,vo,vc,some ⟨gx,0,none⟩,nc,some ⟨gm,0,none⟩,mc⟩).toArray 27)) m eo ec).next (ra _ (.cells (aJ aU aP).toArray 27));have vR:=aH ((w.alloc (.cells (aJ n ⟨lo,lc,vo,vc,some ⟨gx,0,none⟩,nc,some ⟨gm,0,none⟩,mc⟩).toArray 27)).alloc (.cells (bZ m eo ec).toArray 29)) aU aP;rw[World.size_alloc]at vM;rw[World.size_alloc,World.size_alloc]at vR;replace hO:=hO.next hb;have hch:Ch base w _:=Ch.of_rb hb;clear hb;obtain⟨nx,hnx⟩:∃ nx,nx=aT n.next fr:=⟨_,rfl⟩
 obtain⟨mt,hmt⟩:∃ mt,mt=aT n.mat fr:=⟨_,rfl⟩
 rw[<-hnx]at hx1 hx2;rw[<-hmt]at hm1 hm2
 have cX:∀ (W:World) (n2:Nd),n2.next=n.next->NdO W base n2 ⟨lo,lc,vo,vc,some ⟨gx,0,none⟩,nc,some ⟨gm,0,none⟩,mc⟩->W.cell? ⟨gx,fr,none⟩=some (.int .i64 nx):=fun W n2 e h=>by
  obtain⟨g',e',_,hv⟩:=h.x.vh (by rw[e];omega);cases e';have:=hv.cell (j:=fr) (by rw[e];omega);rw[jF _ _ (by rw[e];exact hf1),e,<-hnx]at this;exact this
 have cM:∀ (W:World) (n2:Nd),n2.mat=n.mat->NdO W base n2 ⟨lo,lc,vo,vc,some ⟨gx,0,none⟩,nc,some ⟨gm,0,none⟩,mc⟩->W.cell? ⟨gm,fr,none⟩=some (.int .i64 mt):=fun W n2 e h=>by
  obtain⟨g',e',_,hv⟩:=h.m.vh (by rw[e];omega);cases e';have:=hv.cell (j:=fr) (by rw[e];omega);rw[jF _ _ (by rw[e];exact hf2),e,<-hmt]at this;exact this
 have HNX:Hid (nx=aT n.next fr):=hnx;have HMT:Hid (mt=aT n.mat fr):=hmt;clear hnx hmt;have hi1:(fr:Int)<(n.next.length:Int):=by omega
 have hi2:(fr:Int)<(n.mat.length:Int):=by omega
 have hi0:(0:Int)<=(fr:Int):=by omega
 have hit:(fr:Int).toNat=fr:=by omega
 go_enter Tryz.func36,Tryz.ntmps36;refine fQ fun K0 hK0=>?_
 go_wp2;refine hK0 _ _ ?_;clear hK0;generalize (((w.alloc _).alloc _).alloc _)=W at hch vA vM vR hO ⊢;obtain⟨d0,d1,d2,d3,d4,d5,d6,d7,d8,d9⟩:=VHas.c10 vA;obtain⟨e0,e1,e2,e3,e4,e5,e6,e7,e8⟩:=VHas.c9 vM;simp[lf]at d0 d1 d2 d3 d4 d5 d6 d7 d8 d9 e0 e1 e2 e3 e4 e5 e6 e7 e8;have hfr:=HFR.out;rw[hfr]at e2;clear hfr
 go_wp2_with fail
 have hfr:=HFR.out;clear d0 d1 d2 d3 d4 d5 d6 d7 d8 d9 e0 e1 e2 e3 e4 e5 e6 e7 e8;have hd:RB W W.drew:=(Below.refl _ _).drew;replace vA:NdB W.drew w.heap.size n ⟨lo,lc,vo,vc,some ⟨gx,0,none⟩,nc,some ⟨gm,0,none⟩,mc⟩:=vn vA hd;replace vM:MsB W.drew (w.heap.size+1) m eo ec:=vn vM hd;replace vR:NdB W.drew (w.heap.size+1+1) aU aP:=vn vR hd;replace hO:=hO.next hd;replace hch:=hch.trans (Ch.of_rb hd);clear hd
 refine bQ (by kernel_rfl) (by kernel_rfl) RB rr rt
  [isV (.pointer (some ⟨w.heap.size,8,none⟩)),isV (.slice (some ⟨gx,0,none⟩) n.next.length nc),isV (.pointer (some ⟨w.heap.size+1,2,none⟩)),isV (.int .i64 m.frm),isV (.pointer (some ⟨gx,fr,none⟩)),isV (.int .i64 nx),isV (.pointer (some ⟨w.heap.size,9,none⟩)),isV (.slice (some ⟨gm,0,none⟩) n.mat.length mc),isV (.pointer (some ⟨w.heap.size+1,2,none⟩)),isV (.int .i64 m.frm),isV (.pointer (some ⟨gm,fr,none⟩)),isV (.int .i64 mt),isV (.int .i64 nx),isV (.int .i64 mt)]
  ⟨iR,iR,iR,iR,iR,iR,iR,iR,iR,iR,iR,iR,iR,iR,trivial⟩ rfl ?_ ?_
 ·refine⟨?_,?_,?_,?_,?_,?_,?_,?_,?_,?_,?_,?_,?_,?_,trivial⟩
  ·exact ow 2
  ·exact oc 0 19 fun _ hR=>(vn vA hR).cell (j:=8) (by omega)
  ·exact ow 3
  ·exact oc 2 21 fun _ hR=>(vn vM hR).cell (j:=2) (by omega)
  ·exact oq rfl fun ev w' v hR E pr=>by
    have e1:=E.eq pr 1 20;have e2:=E.eq pr 3 22;simp[go_sem,e1,e2,hfr,hi1,hi0,hit]
  ·exact oq rfl fun ev w' v hR E pr=>by
    have e1:=E.eq pr 4 23;have cc:=cX w' n rfl (hO.next hR);simp[go_sem,e1,cc]
  ·exact ow 2
  ·exact oc 6 25 fun _ hR=>(vn vA hR).cell (j:=9) (by omega)
  ·exact ow 3
  ·exact oc 8 27 fun _ hR=>(vn vM hR).cell (j:=2) (by omega)
  ·exact oq rfl fun ev w' v hR E pr=>by
    have e1:=E.eq pr 7 26;have e2:=E.eq pr 9 28;simp[go_sem,e1,e2,hfr,hi2,hi0,hit]
  ·exact oq rfl fun ev w' v hR E pr=>by
    have e1:=E.eq pr 10 29;have cc:=cM w' n rfl (hO.next hR);simp[go_sem,e1,cc]
  ·exact o1 5 24
  ·exact o1 11 30
 intro v3 w3 hR3 hp3;obtain⟨p0,p1,p2,p3,p4,p5,p6,p7,p8,p9,p10,p11,p12,p13,_⟩:=hp3;replace p0:v3 0=.pointer (some ⟨w.heap.size,8,none⟩):=p0;replace p1:v3 1=.slice (some ⟨gx,0,none⟩) n.next.length nc:=p1;replace p2:v3 2=.pointer (some ⟨w.heap.size+1,2,none⟩):=p2;replace p3:v3 3=.int .i64 m.frm:=p3;replace p4:v3 4=.pointer (some ⟨gx,fr,none⟩):=p4;replace p5:v3 5=.int .i64 nx:=p5;replace p6:v3 6=.pointer (some ⟨w.heap.size,9,none⟩):=p6;replace p7:v3 7=.slice (some ⟨gm,0,none⟩) n.mat.length mc:=p7;replace p8:v3 8=.pointer (some ⟨w.heap.size+1,2,none⟩):=p8;replace p9:v3 9=.int .i64 m.frm:=p9;replace p10:v3 10=.pointer (some ⟨gm,fr,none⟩):=p10;replace p11:v3 11=.int .i64 mt:=p11;replace p12:v3 12=.int .i64 nx:=p12;replace p13:v3 13=.int .i64 mt:=p13;simp only[bF,Nat.zero_add,Nat.reduceAdd,p0,p1,p2,p3,p4,p5,p6,p7,p8,p9,p10,p11,p12,p13,Act.put,sY,sZ,ss];clear p0 p1 p2 p3 p4 p5 p6 p7 p8 p9 p10 p11 p12 p13;replace vA:NdB w3 w.heap.size n ⟨lo,lc,vo,vc,some ⟨gx,0,none⟩,nc,some ⟨gm,0,none⟩,mc⟩:=vn vA hR3;replace vM:MsB w3 (w.heap.size+1) m eo ec:=vn vM hR3;replace vR:NdB w3 (w.heap.size+1+1) aU aP:=vn vR hR3;replace hO:=hO.next hR3;replace hch:=hch.trans (Ch.of_rb hR3);clear hR3;obtain⟨d0,d1,d2,d3,d4,d5,d6,d7,d8,d9⟩:=VHas.c10 vA;obtain⟨e0,e1,e2,e3,e4,e5,e6,e7,e8⟩:=VHas.c9 vM;simp[lf]at d0 d1 d2 d3 d4 d5 d6 d7 d8 d9 e0 e1 e2 e3 e4 e5 e6 e7 e8;rw[hfr]at e2;clear hfr;have k1:IntKind.i64.wrap (nx-2)=nx-2:=wi
 have k2:IntKind.i64.wrap (mt+1)=mt+1:=wi
 have k3:IntKind.i64.wrap (min (nx-2) m.index+1)=min (nx-2) m.index+1:=wi
 rcases bq m.yes with hy|hy
 rotate_left
 ·have HX:Hid (rD n m fr=max (min (nx-2) m.index+1) (mt+1)):=by show _ = _;rw[HNX.out,HMT.out];rfl
  have HY:Hid (m.yes=false):=hy;rw[hy]at e8;clear hy
  have vx:VHas w3 gx 2 (n.next.length*1) (lf (cU n.next)):=by
   obtain⟨g',e',_,hv⟩:=hO.x.vh (by show 0<n.next.length;omega);cases e';exact hv
  go_wp2_with (first|(with_reducible refine jR rfl 42 rfl (pG (x:=.tmp 39) (y:=.tmp 41) (u:=nx-2) (v:=m.index) rfl (by simp[go_sem]) (by simp[go_sem])) ?_)|(with_reducible refine jR rfl 46 rfl (pF (x:=.tmp 43) (y:=.tmp 45) (u:=min (nx-2) m.index+1) (v:=mt+1) rfl (by simp[go_sem]) (by simp[go_sem])) ?_)|((with_reducible refine wC 2 (.tmp 47) (.tmp 46) gx fr (.int .i64 (max (min (nx-2) m.index+1) (mt+1))) vx ?_);intro W4 hW4;have hp4:=hO.setX fr hf1 (max (min (nx-2) m.index+1) (mt+1));rw[<-hW4]at hp4;clear hW4;have vA4:NdB W4 w.heap.size n ⟨lo,lc,vo,vc,some ⟨gx,0,none⟩,nc,some ⟨gm,0,none⟩,mc⟩:=VHas.ch vA hp4.2 (by decide) (by decide);have vR4:NdB W4 (w.heap.size+1+1) aU aP:=VHas.ch vR hp4.2 (by decide) (by decide);obtain⟨f0,f1,f2,f3,f4,f5,f6,f7,f8,f9⟩:=cN vA4)|((with_reducible refine wB 27 (.tmp 4) (.tmp 48) (w.heap.size+1+1) (aJ (n) (⟨lo,lc,vo,vc,some ⟨gx,0,none⟩,nc,some ⟨gm,0,none⟩,mc⟩)) vR4 ?_);intro W9 hv9 hg9)|fail)
  obtain⟨q0,q1,q2,q3,q4,q5,q6,q7,q8,q9⟩:=cN hv9;have eN:jU n m fr=fU n fr (max (min (nx-2) m.index+1) (mt+1)):=by rw[HN1.out,HY.out,HX.out];rfl
  have hO9:=hp4.1.gr hg9 (bA vR4) (by decide) (by decide);exact bodyPost_ret (v:=.tuple #[aX n ⟨lo,lc,vo,vc,some ⟨gx,0,none⟩,nc,some ⟨gm,0,none⟩,mc⟩,.slice none 0 0]) (by simp[results,Tryz.results36,go_sem,q0,q1,q2,q3,q4,q5,q6,q7,q8,q9]) rfl ⟨by rw[eN,J8],by rw[eN];exact hO9,(hch.trans hp4.2).box hg9 (by omega)⟩
 have HY:Hid (m.yes=true):=hy;rw[hy]at e8;clear hy
 go_wp2_with fail
 clear d0 d1 d2 d3 d4 d5 d6 d7 d8 d9 e0 e1 e2 e3 e4 e5 e6 e7 e8;have hd:RB w3 w3.drew:=(Below.refl _ _).drew;replace vA:NdB w3.drew w.heap.size n ⟨lo,lc,vo,vc,some ⟨gx,0,none⟩,nc,some ⟨gm,0,none⟩,mc⟩:=vn vA hd;replace vM:MsB w3.drew (w.heap.size+1) m eo ec:=vn vM hd;replace vR:NdB w3.drew (w.heap.size+1+1) aU aP:=vn vR hd;replace hO:=hO.next hd;replace hch:=hch.trans (Ch.of_rb hd);clear hd
 refine bQ (by kernel_rfl) (by kernel_rfl) RB rr rt
  [isV (.pointer (some ⟨w.heap.size+1,4,none⟩)),isV (.int .i64 m.index),isV (aX n ⟨lo,lc,vo,vc,some ⟨gx,0,none⟩,nc,some ⟨gm,0,none⟩,mc⟩),isV (.int .i64 (n.log.length:Int)),isV (.bool (decide (m.index<=(n.log.length:Int))))]
  ⟨iR,iR,iR,iR,iR,trivial⟩ rfl ?_ ?_
 ·refine jE ?_ (jE ?_ (jE ?_ (jE ?_ (jE ?_ N4))))
  ·exact ow 3
  ·exact oc 0 49 fun _ hR=>(vn vM hR).cell (j:=4) (by omega)
  ·exact oq rfl fun ev w' v hR E pr=>by
    have e1:=E.was 2 _;exact bD rfl e1 (vn vA hR)
  ·exact OpOk.ret _ (fun _=>rfl) fun ev w' v hR E pr=>by
    have e1:=E.eq pr 2 51;refine⟨46,#[aX n ⟨lo,lc,vo,vc,some ⟨gx,0,none⟩,nc,some ⟨gm,0,none⟩,mc⟩],by simp[go_sem,e1,E.fn],?_⟩;exact gD n ⟨lo,lc,vo,vc,some ⟨gx,0,none⟩,nc,some ⟨gm,0,none⟩,mc⟩ hzl _
  ·exact zS 1 50 3 52 nt
 intro v7 w7 hR7 hp7;obtain⟨p0,p1,p2,p3,p4,_⟩:=hp7;replace p0:v7 0=.pointer (some ⟨w.heap.size+1,4,none⟩):=p0;replace p1:v7 1=.int .i64 m.index:=p1;replace p2:v7 2=aX n ⟨lo,lc,vo,vc,some ⟨gx,0,none⟩,nc,some ⟨gm,0,none⟩,mc⟩:=p2;replace p3:v7 3=.int .i64 (n.log.length:Int):=p3;replace p4:v7 4=.bool (decide (m.index<=(n.log.length:Int))):=p4;simp only[bF,Nat.zero_add,Nat.reduceAdd,p0,p1,p2,p3,p4,Act.put,sY,sZ,ss];clear p0 p1 p2 p3 p4;replace vA:NdB w7 w.heap.size n ⟨lo,lc,vo,vc,some ⟨gx,0,none⟩,nc,some ⟨gm,0,none⟩,mc⟩:=vn vA hR7;replace vM:MsB w7 (w.heap.size+1) m eo ec:=vn vM hR7;replace vR:NdB w7 (w.heap.size+1+1) aU aP:=vn vR hR7;replace hO:=hO.next hR7;replace hch:=hch.trans (Ch.of_rb hR7);clear hR7;obtain⟨mx,hmx⟩:∃ mx,mx=dL n m fr:=⟨_,rfl⟩
 have hmx2:mx=if m.index<=(n.log.length:Int) then max mt m.index else mt:=by rw[hmx,HMT.out];rfl
 have hmb:0<=mx/\mx<=2000000:=by
  rw[hmx2]
  split<;>omega
 have HMX:Hid (mx=dL n m fr):=hmx;clear hmx;have k4:IntKind.i64.wrap (mx+1)=mx+1:=wi
 have vm:VHas w7 gm 2 (n.mat.length*1) (lf (cU n.mat)):=by
  obtain⟨g',e',_,hv⟩:=hO.m.vh (by show 0<n.mat.length;omega);cases e';exact hv
 obtain⟨d0,d1,d2,d3,d4,d5,d6,d7,d8,d9⟩:=VHas.c10 vA;obtain⟨e0,e1,e2,e3,e4,e5,e6,e7,e8⟩:=VHas.c9 vM;simp[lf]at d0 d1 d2 d3 d4 d5 d6 d7 d8 d9 e0 e1 e2 e3 e4 e5 e6 e7 e8;have hfr:=HFR.out;rw[hfr]at e2;clear hfr
 have HP:Hid (∀ W,NdO W base (fU (eB n fr mx) fr (mx+1)) ⟨lo,lc,vo,vc,some ⟨gx,0,none⟩,nc,some ⟨gm,0,none⟩,mc⟩->Calls Tryz.prog 77 #[aX (fU (eB n fr mx) fr (mx+1)) ⟨lo,lc,vo,vc,some ⟨gx,0,none⟩,nc,some ⟨gm,0,none⟩,mc⟩] W fun e w'=>e=.returned (.int .i64 (lH (fU (eB n fr mx) fr (mx+1))))/\RB W w'):=fun W h=>
  pI (fU (eB n fr mx) fr (mx+1)) ⟨lo,lc,vo,vc,some ⟨gx,0,none⟩,nc,some ⟨gm,0,none⟩,mc⟩ ⟨hz.l,hz.v,by simp[fU,eB];exact hz.x,by simp[fU,eB];exact hz.m,hz.lc,hz.vc,by simp[fU,eB];exact hz.xc,by simp[fU,eB];exact hz.mc,hz.tx⟩ hC W h.M
 by_cases hle:m.index<=(n.log.length:Int)
 ·rw[if_pos hle]at hmx2
  have hle':decide (m.index<=(n.log.length:Int))=true:=by simp[hle]
  have HMX2:Hid (mx=max mt m.index):=hmx2;rw[hle'];clear hmx2 hle hle'
  go_wp2_with (first|((with_reducible refine jR rfl 57 rfl (pF (x:=.tmp 54) (y:=.tmp 56) (u:=mt) (v:=m.index) rfl (by simp[go_sem]) (by simp[go_sem])) ?_);rw[<-HMX2.out])|((with_reducible refine wC 2 (.tmp 63) (.tmp 62) gm fr (.int .i64 mx) vm ?_);intro W4 hW4;have hp4:=hO.setM fr hf2 mx;rw[<-hW4]at hp4;clear hW4;have vA4:NdB W4 w.heap.size n ⟨lo,lc,vo,vc,some ⟨gx,0,none⟩,nc,some ⟨gm,0,none⟩,mc⟩:=VHas.ch vA hp4.2 (by decide) (by decide);have vM4:MsB W4 (w.heap.size+1) m eo ec:=VHas.ch vM hp4.2 (by decide) (by decide);have vR4:NdB W4 (w.heap.size+1+1) aU aP:=VHas.ch vR hp4.2 (by decide) (by decide);have vx4:VHas W4 gx 2 (n.next.length*1) (lf (cU n.next)):=NdO.xv (n:=eB n fr mx) hp4.1 hf1;obtain⟨f0,f1,f2,f3,f4,f5,f6,f7,f8,f9⟩:=cN vA4;have g2:=vM4.cell (j:=2) (by omega);simp[lf]at g2;rw[HFR.out]at g2)|((with_reducible refine wC 2 (.tmp 70) (.tmp 69) gx fr (.int .i64 (mx+1)) vx4 ?_);intro W5 hW5;have hp5:=NdO.setX hp4.1 fr hf1 (mx+1);rw[<-hW5]at hp5;clear hW5;have vA5:NdB W5 w.heap.size n ⟨lo,lc,vo,vc,some ⟨gx,0,none⟩,nc,some ⟨gm,0,none⟩,mc⟩:=VHas.ch vA4 hp5.2 (by decide) (by decide);have vR5:NdB W5 (w.heap.size+1+1) aU aP:=VHas.ch vR4 hp5.2 (by decide) (by decide);obtain⟨g0,g1,g2,g3,g4,g5,g6,g7,g8,g9⟩:=cN vA5)|fail)
  have HPW:=HP.out W5 hp5.1;rw[J8,BC]at HPW;refine HPW.mono ?_;rintro e w8 ⟨rfl,hb8⟩;clear f0 f1 f2 f3 f4 f5 f6 f7 f8 f9 g0 g1 g2 g3 g4 g5 g6 g7 g8 g9 HPW;have vA8:NdB w8 w.heap.size n ⟨lo,lc,vo,vc,some ⟨gx,0,none⟩,nc,some ⟨gm,0,none⟩,mc⟩:=vn vA5 hb8;have vR8:NdB w8 (w.heap.size+1+1) aU aP:=vn vR5 hb8;have hO8:=hp5.1.next hb8;have hch8:=(hch.trans (hp4.2.trans hp5.2)).trans (Ch.of_rb hb8);clear hb8
  go_wp2_with (first|((with_reducible refine cG rfl 2 (.tmp 73) (.tmp 72) rfl rfl w.heap.size 6 (.int .i64 (lH (fU (eB n fr mx) fr (mx+1)))) (by simp[go_sem]) (by simp[go_sem]) (yP (fU (eB n fr mx) fr (mx+1))) ⟨lo,lc,vo,vc,some ⟨gx,0,none⟩,nc,some ⟨gm,0,none⟩,mc⟩ vA8 (by omega) (by kernel_rfl) (by kernel_rfl) (dT (by kernel_rfl)) (by rw[BD]) ?_);intro W6 vA6 hg6;have hT6:=bA vA8;have vR6:NdB W6 (w.heap.size+1+1) aU aP:=VHas.grown vR8 hg6 (fun e=>by have:=oI e;omega);obtain⟨h0,h1,h2,h3,h4,h5,h6,h7,h8,h9⟩:=cN vA6)|((with_reducible refine wB 27 (.tmp 4) (.tmp 74) (w.heap.size+1+1) (aJ (yP (fU (eB n fr mx) fr (mx+1))) ⟨lo,lc,vo,vc,some ⟨gx,0,none⟩,nc,some ⟨gm,0,none⟩,mc⟩) vR6 ?_);intro W9 hv9 hg9)|fail)
  obtain⟨q0,q1,q2,q3,q4,q5,q6,q7,q8,q9⟩:=cN hv9;have eN:jU n m fr=yP (fU (eB n fr mx) fr (mx+1)):=by rw[HN1.out,HY.out,HMX.out];rfl
  have hO6:=(hO8.gr hg6 hT6 (by decide) (by decide)).gr hg9 (bA vR6) (by decide) (by decide);exact bodyPost_ret (v:=.tuple #[aX (yP (fU (eB n fr mx) fr (mx+1))) ⟨lo,lc,vo,vc,some ⟨gx,0,none⟩,nc,some ⟨gm,0,none⟩,mc⟩,.slice none 0 0]) (by simp[results,Tryz.results36,go_sem,q0,q1,q2,q3,q4,q5,q6,q7,q8,q9]) rfl ⟨by rw[eN],by rw[eN];exact⟨hO6.l,hO6.v,hO6.x,hO6.m,hO6.vx,hO6.vm,hO6.xm⟩,(hch8.box hg6 nl).box hg9 (by omega)⟩
 ·rw[if_neg hle]at hmx2
  have hle':decide (m.index<=(n.log.length:Int))=false:=by simp[hle]
  subst hmx2;rw[hle'];clear hle hle'
  go_wp2_with (first|((with_reducible refine wC 2 (.tmp 63) (.tmp 62) gm fr (.int .i64 mx) vm ?_);intro W4 hW4;have hp4:=hO.setM fr hf2 mx;rw[<-hW4]at hp4;clear hW4;have vA4:NdB W4 w.heap.size n ⟨lo,lc,vo,vc,some ⟨gx,0,none⟩,nc,some ⟨gm,0,none⟩,mc⟩:=VHas.ch vA hp4.2 (by decide) (by decide);have vM4:MsB W4 (w.heap.size+1) m eo ec:=VHas.ch vM hp4.2 (by decide) (by decide);have vR4:NdB W4 (w.heap.size+1+1) aU aP:=VHas.ch vR hp4.2 (by decide) (by decide);have vx4:VHas W4 gx 2 (n.next.length*1) (lf (cU n.next)):=NdO.xv (n:=eB n fr mx) hp4.1 hf1;obtain⟨f0,f1,f2,f3,f4,f5,f6,f7,f8,f9⟩:=cN vA4;have g2:=vM4.cell (j:=2) (by omega);simp[lf]at g2;rw[HFR.out]at g2)|((with_reducible refine wC 2 (.tmp 70) (.tmp 69) gx fr (.int .i64 (mx+1)) vx4 ?_);intro W5 hW5;have hp5:=NdO.setX hp4.1 fr hf1 (mx+1);rw[<-hW5]at hp5;clear hW5;have vA5:NdB W5 w.heap.size n ⟨lo,lc,vo,vc,some ⟨gx,0,none⟩,nc,some ⟨gm,0,none⟩,mc⟩:=VHas.ch vA4 hp5.2 (by decide) (by decide);have vR5:NdB W5 (w.heap.size+1+1) aU aP:=VHas.ch vR4 hp5.2 (by decide) (by decide);obtain⟨g0,g1,g2,g3,g4,g5,g6,g7,g8,g9⟩:=cN vA5)|fail)
  have HPW:=HP.out W5 hp5.1;rw[J8,BC]at HPW;refine HPW.mono ?_;rintro e w8 ⟨rfl,hb8⟩;clear f0 f1 f2 f3 f4 f5 f6 f7 f8 f9 g0 g1 g2 g3 g4 g5 g6 g7 g8 g9 HPW;have vA8:NdB w8 w.heap.size n ⟨lo,lc,vo,vc,some ⟨gx,0,none⟩,nc,some ⟨gm,0,none⟩,mc⟩:=vn vA5 hb8;have vR8:NdB w8 (w.heap.size+1+1) aU aP:=vn vR5 hb8;have hO8:=hp5.1.next hb8;have hch8:=(hch.trans (hp4.2.trans hp5.2)).trans (Ch.of_rb hb8);clear hb8
  go_wp2_with (first|((with_reducible refine cG rfl 2 (.tmp 73) (.tmp 72) rfl rfl w.heap.size 6 (.int .i64 (lH (fU (eB n fr mx) fr (mx+1)))) (by simp[go_sem]) (by simp[go_sem]) (yP (fU (eB n fr mx) fr (mx+1))) ⟨lo,lc,vo,vc,some ⟨gx,0,none⟩,nc,some ⟨gm,0,none⟩,mc⟩ vA8 (by omega) (by kernel_rfl) (by kernel_rfl) (dT (by kernel_rfl)) (by rw[BD]) ?_);intro W6 vA6 hg6;have hT6:=bA vA8;have vR6:NdB W6 (w.heap.size+1+1) aU aP:=VHas.grown vR8 hg6 (fun e=>by have:=oI e;omega);obtain⟨h0,h1,h2,h3,h4,h5,h6,h7,h8,h9⟩:=cN vA6)|((with_reducible refine wB 27 (.tmp 4) (.tmp 74) (w.heap.size+1+1) (aJ (yP (fU (eB n fr mx) fr (mx+1))) ⟨lo,lc,vo,vc,some ⟨gx,0,none⟩,nc,some ⟨gm,0,none⟩,mc⟩) vR6 ?_);intro W9 hv9 hg9)|fail)
  obtain⟨q0,q1,q2,q3,q4,q5,q6,q7,q8,q9⟩:=cN hv9;have eN:jU n m fr=yP (fU (eB n fr mx) fr (mx+1)):=by rw[HN1.out,HY.out,HMX.out];rfl
  have hO6:=(hO8.gr hg6 hT6 (by decide) (by decide)).gr hg9 (bA vR6) (by decide) (by decide);exact bodyPost_ret (v:=.tuple #[aX (yP (fU (eB n fr mx) fr (mx+1))) ⟨lo,lc,vo,vc,some ⟨gx,0,none⟩,nc,some ⟨gm,0,none⟩,mc⟩,.slice none 0 0]) (by simp[results,Tryz.results36,go_sem,q0,q1,q2,q3,q4,q5,q6,q7,q8,q9]) rfl ⟨by rw[eN],by rw[eN];exact⟨hO6.l,hO6.v,hO6.x,hO6.m,hO6.vx,hO6.vm,hO6.xm⟩,(hch8.box hg6 nl).box hg9 (by omega)⟩
end
end Go.Proofs.YtbabakgjkloabaaGreatDoor
