/-
  Helpers: Ldg.
-/
import Derived.Test.YtbabakgjkloabaaGreatDoorPack13
set_option linter.unusedVariables false
set_option linter.unusedSimpArgs false
set_option maxRecDepth 100000
set_option maxHeartbeats 16000000
namespace Go.Proofs.YtbabakgjkloabaaGreatDoor
section
open Go Go.RowKit
attribute [local go_sem ↓] Go.wp_at_zero Go.wp_at_succ
theorem AN(c:Nat)(x:Int):madeCells #[.int .i64 0] c=(dY x 0 c).toArray:=by
 apply Array.toList_inj.mp;rw[toList_madeCells_one];simp[dY]
theorem AO(w:World)(c:Nat)(hc:c<=1048576):OwI (w.alloc (.cells (madeCells #[.int .i64 0] c) 2)) w.heap.size (some ⟨w.heap.size,0,none⟩) c (List.replicate c 0):=by
 refine N3 hc nl ?_
 have e:madeCells #[.int .i64 0] c=(dY 0 c c).toArray:=by
  rw[AN c 0];simp[dY]
 rw[e];exact heap_alloc_new w _
theorem A0(x p:Int)(h1:1<=p)(h2:p<=1048576)(b o cp:Nat)(w:World)(hr:w.cell? ⟨b,o,none⟩=some (.int .i64 x)):Calls Tryz.prog 90 #[.slice (some ⟨b,o,none⟩) 1 cp,.int .i64 p] w fun e w'=>CU x p.toNat w w' e:=by
 have h:=B9 x p.toNat (by omega) (by omega) b o cp w hr;rw[show (p.toNat:Int)=p by omega]at h;exact h
theorem AP(p:Int)(h1:0<=p)(h2:p<=1048576)(w:World):(Instr.makeSlice 25 (.int .i64 p) (.int .i64 p)).run Tryz.prog w=.ok (.slice (some ⟨w.heap.size,0,none⟩) p.toNat p.toNat) (w.alloc (.cells (madeCells #[.int .i64 0] p.toNat) 2)):=by
 have h:=vH p.toNat (by omega) w;rw[show (p.toNat:Int)=p by omega]at h;exact h
def EX(n:Nd):Nd:=⟨n.id,n.peers,n.term,n.vote,n.log,3,n.commit,n.votes,n.next,n.mat⟩
def EY(n:Nd):Nd:=⟨n.id,n.peers,n.term,n.vote,n.log,3,n.commit,n.votes,List.replicate n.peers.toNat ((n.log.length:Int)+1),n.mat⟩
def iT(n:Nd):Nd:=⟨n.id,n.peers,n.term,n.vote,n.log,3,n.commit,n.votes,List.replicate n.peers.toNat ((n.log.length:Int)+1),List.replicate n.peers.toNat 0⟩
def oP:ByteArray:={ data:=#[110,111,110,101] }
def pT(n:Nd):Nd:=if gP (iT n)=true then iO (iT n) oP else iT n
def eJ(n:Nd):Nd:=gU (pT n) n.id.toNat
def wJ(n:Nd):List Ms:=dU (eJ n)
def FS(base:Nat)(n:Nd)(l:List Ms)(w w':World)(e:Ending):Prop:=∃ s v,e=.returned (.tuple #[aX n s,v])/\NdM w' n s/\NdK n s/\NetV w.heap.size l v w'/\Ch base w w'
theorem A1(n:Nd)(s:NdS)(hz:NdZ n s)(hp:1<=n.peers/\n.peers<=5)(hi:0<=n.id/\n.id<n.peers)(hc:0<=n.commit)(base:Nat)(w:World)(hbs:base<=w.heap.size)(hO:NdO w base n s):Calls Tryz.prog 50 #[aX n s] w fun e w'=>FS base (eJ n) (wJ n) w w' e:=by
 have hb:=rt _ _ _ (ra w (.cells (aJ n s).toArray 27)) (ra _ (.cells (aJ aU aP).toArray 27));have vA:NdB _ w.heap.size n s:=(aH w n s).next (ra _ (.cells (aJ aU aP).toArray 27));have vR:=aH (w.alloc (.cells (aJ n s).toArray 27)) aU aP;rw[World.size_alloc]at vR;have hvx:Hid (∀ b,dI s.vo=some b->b<w.heap.size):=fun b e=>(hO.v.at e).2
 replace hO:=hO.next hb;have hzl:=hz.l;have hp1:=hp.1;have hp2:n.peers<=1048576:=by omega
 have hp0:0<=n.peers:=by omega
 have hmk:=AP n.peers hp0 hp2;go_enter Tryz.func50,Tryz.ntmps50
 go_wp2_with fail
 generalize ((w.alloc _).alloc _)=W at hb vA vR hO ⊢;refine (gD n s hzl _).mono ?_;rintro e w1 ⟨rfl,hb1⟩;replace hb:=rt _ _ _ hb hb1;replace vA:NdB w1 w.heap.size n s:=vn vA hb1;replace vR:NdB w1 (w.heap.size+1) aU aP:=vn vR hb1;replace hO:=hO.next hb1;have hw1:IntKind.i64.wrap ((n.log.length:Int)+1)=(n.log.length:Int)+1:=wi
 clear hb1
 go_wp2_with (first|((with_reducible refine wN 2 (.tmp 8) (.const (.int .i64 3)) (w.heap.size) 5 (.int .i64 3) (EX n) (s) vA ?_);intro W2 vA2 hg2;have vA3:NdB (W2.alloc (.cells #[.int .i64 ((n.log.length:Int)+1)] 2)) w.heap.size (EX n) s:=vn vA2 (ra _ _);obtain⟨f0,f1,f2,f3,f4,f5,f6,f7,f8,f9⟩:=VHas.c10 vA3;simp[lf,EX]at f0 f1 f2 f3 f4 f5 f6 f7 f8 f9)|fail)
 have hal:=ra W2 (.cells #[.int .i64 ((n.log.length:Int)+1)] 2);have hcl:(W2.alloc (.cells #[.int .i64 ((n.log.length:Int)+1)] 2)).cell? ⟨W2.heap.size,0,none⟩=some (.int .i64 ((n.log.length:Int)+1)):=by simp[go_sem]
 have hb3:=rt _ _ _ (aV hb hg2 nl) hal;have vR3:NdB (W2.alloc (.cells #[.int .i64 ((n.log.length:Int)+1)] 2)) (w.heap.size+1) aU aP:=vn (VHas.grown vR hg2 (fun e=>by have:=oI e;omega)) hal;have hO3:=(hO.gr hg2 (bA vA) (by decide) (by decide)).next hal;clear hb hO vR vA vA2 hg2 hal f0 f1 f2 f3 f4 f5 f6 f7 f8 f9;generalize (W2.alloc (.cells #[.int .i64 ((n.log.length:Int)+1)] 2))=W3 at hcl hb3 vR3 hO3 vA3 ⊢;refine (A0 ((n.log.length:Int)+1) n.peers hp1 hp2 W2.heap.size 0 1 _ hcl).mono ?_;rintro e w4 ⟨gx,rfl,hX,hb4⟩;replace hb:=rt _ _ _ hb3 hb4;replace vA:NdB w4 w.heap.size (EX n) s:=vn vA3 hb4;replace vR:NdB w4 (w.heap.size+1) aU aP:=vn vR3 hb4;replace hO:=hO3.next hb4;have hbx:w.heap.size<=W3.heap.size:=hb3.size;clear hb3 hb4 vA3 vR3 hO3 hcl
 go_wp2_with (first|((with_reducible refine cG rfl 25 (.tmp 14) (.tmp 13) rfl rfl (w.heap.size) 8 (.slice (some ⟨gx,0,none⟩) n.peers.toNat n.peers.toNat) (by simp[go_sem]) (by simp[go_sem]) (EY n) (⟨s.lo,s.lc,s.vo,s.vc,some ⟨gx,0,none⟩,n.peers.toNat,s.mo,s.mc⟩) vA (by omega) (by kernel_rfl) (by kernel_rfl) (dT (by kernel_rfl)) (by simp[EY,EX]) ?_);intro W5 vA5 hg5;have vA5a:NdB (W5.alloc (.cells (madeCells #[.int .i64 0] n.peers.toNat) 2)) w.heap.size (EY n) ⟨s.lo,s.lc,s.vo,s.vc,some ⟨gx,0,none⟩,n.peers.toNat,s.mo,s.mc⟩:=vn vA5 (ra _ _);obtain⟨f0,f1,f2,f3,f4,f5,f6,f7,f8,f9⟩:=VHas.c10 vA5;simp[lf,EY]at f0 f1 f2 f3 f4 f5 f6 f7 f8 f9)|((with_reducible refine cG rfl 25 (.tmp 18) (.tmp 17) rfl rfl (w.heap.size) 9 (.slice (some ⟨W5.heap.size,0,none⟩) n.peers.toNat n.peers.toNat) (by simp[go_sem]) (by simp[go_sem]) (iT n) (⟨s.lo,s.lc,s.vo,s.vc,some ⟨gx,0,none⟩,n.peers.toNat,some ⟨W5.heap.size,0,none⟩,n.peers.toNat⟩) vA5a (by omega) (by kernel_rfl) (by kernel_rfl) (dT (by kernel_rfl)) (by simp[EY,iT]) ?_);intro W6 vA6 hg6;obtain⟨f0,f1,f2,f3,f4,f5,f6,f7,f8,f9⟩:=cN vA6)|fail)
 have hal5:=ra W5 (.cells (madeCells #[.int .i64 0] n.peers.toNat) 2);have hMt:=AO W5 n.peers.toNat (by omega);have hb6:=aV (rt _ _ _ (aV hb hg5 nl) hal5) hg6 nl;have vR6:NdB W6 (w.heap.size+1) aU aP:=VHas.grown (vn (VHas.grown vR hg5 (fun e=>by have:=oI e;omega)) hal5) hg6 (fun e=>by have:=oI e;omega);have hOa:=((hO.gr hg5 (bA vA) (by decide) (by decide)).next hal5).gr hg6 (bA vA5a) (by decide) (by decide);have hXa:=((hX.gr hg5 (bA vA) (by decide)).next hal5).gr hg6 (bA vA5a) (by decide);have hMa:=hMt.gr hg6 (bA vA5a) (by decide);have hgx:=hX.at (b:=gx) rfl;have hsz5:w4.heap.size<=W5.heap.size:=hg5.size
 have hO6:NdO W6 base (iT n) ⟨s.lo,s.lc,s.vo,s.vc,some ⟨gx,0,none⟩,n.peers.toNat,some ⟨W5.heap.size,0,none⟩,n.peers.toNat⟩:=⟨hOa.l,hOa.v,hXa.from (Nat.le_trans hbs hbx),hMa.from (by omega),fun b e q=>by
  have h1:=hvx.out b e;have h2:gx=b:=oI q;omega,fun b e q=>by
  have h1:=hvx.out b e;have h2:W5.heap.size=b:=oI q;omega,fun b e q=>by
  have h1:gx=b:=oI e;have h2:W5.heap.size=b:=oI q
  omega⟩
 have hzM:NdZ (iT n) ⟨s.lo,s.lc,s.vo,s.vc,some ⟨gx,0,none⟩,n.peers.toNat,some ⟨W5.heap.size,0,none⟩,n.peers.toNat⟩:=⟨hz.l,hz.v,by simp[iT];omega,by simp[iT];omega,hz.lc,hz.vc,by simp[iT],by simp[iT],hz.tx⟩
 clear hal5 hMt hOa hXa hMa hgx hvx hg5 hg6 vA5 vA5a hb hO vR vA hX hmk hsz5;refine (tH (iT n) ⟨s.lo,s.lc,s.vo,s.vc,some ⟨gx,0,none⟩,n.peers.toNat,some ⟨W5.heap.size,0,none⟩,n.peers.toNat⟩ hzM.l _).mono ?_;rintro e w7 ⟨rfl,hb7⟩;have hb:=rt _ _ _ hb6 hb7;have vA:NdB w7 w.heap.size (iT n) ⟨s.lo,s.lc,s.vo,s.vc,some ⟨gx,0,none⟩,n.peers.toNat,some ⟨W5.heap.size,0,none⟩,n.peers.toNat⟩:=vn vA6 hb7;have vR:NdB w7 (w.heap.size+1) aU aP:=vn vR6 hb7;have hO:=hO6.next hb7;have HA:Hid (pT n=if gP (iT n)=true then iO (iT n) oP else iT n):=rfl;have HN0:Hid (eJ n=gU (pT n) n.id.toNat):=rfl;have HL0:Hid (wJ n=dU (eJ n)):=rfl;have hid:Hid ((iT n).id=n.id):=rfl;have hml:(iT n).mat.length=n.peers.toNat:=by simp[iT]
 have hxl:(iT n).next.length=n.peers.toNat:=by simp[iT]
 have hpm:Hid ((iT n).peers=n.peers):=rfl;have hcm:Hid ((iT n).commit=n.commit):=rfl;have hxx:Hid (∀ i,i<n.peers.toNat->aT (iT n).next i=((iT n).log.length:Int)+1):=fun i hi=>by simp[iT,aT,hi]
 replace hml:Hid ((iT n).mat.length=n.peers.toNat):=hml;replace hxl:Hid ((iT n).next.length=n.peers.toNat):=hxl;clear hb6 hb7 vA6 vR6 hO6 f0 f1 f2 f3 f4 f5 f6 f7 f8 f9;generalize iT n=M at vA hO hzM HA hid hml hxl hpm hcm hxx ⊢;generalize (⟨s.lo,s.lc,s.vo,s.vc,some ⟨gx,0,none⟩,n.peers.toNat,some ⟨W5.heap.size,0,none⟩,n.peers.toNat⟩:NdS)=sM at vA hO hzM ⊢;obtain⟨f0,f1,f2,f3,f4,f5,f6,f7,f8,f9⟩:=cN vA;rcases bq (gP M) with hrm|hrm
 rotate_left
 ·rw[hrm]
  have HAA:Hid (pT n=M):=by show _ = _;rw[HA.out,hrm];rfl
  have hChA:Ch base w w7:=Ch.of_rb hb;have hbsA:base<=w7.heap.size:=Nat.le_trans hbs hb.size;have hxxA:Hid (∀ i,i<n.peers.toNat->1<=aT M.next i/\aT M.next i<=(M.log.length:Int)+1):=fun i hi=>by rw[hxx.out i hi];omega
  have hmlA:=hml;have hxlA:=hxl;have hpmA:=hpm;have hcmA:=hcm;have hidA:=hid;have hzA:=hzM;have hOA:=hO;have vAA:=vA;have vRA:=vR;clear hxx hml hxl hpm hcm hid hzM hO vA vR HA hrm hb;have hil:n.id.toNat<M.mat.length:=by rw[hmlA.out];omega
  have hcA:0<=M.commit:=by rw[hcmA.out];exact hc
  have hidA2:Hid (M.id=(n.id.toNat:Int)):=by show _ = _;rw[hidA.out];omega
  go_wp2_with fail
  refine (jI M sM hzA base n.id.toNat hidA2.out hil hcA _ hbsA hOA).mono ?_;rintro e w8 ⟨rfl,hO8,hg8⟩
  have hT8:∀ x,dI sM.mo=some x->aG _ x 2:=fun x e=>GOwn.typed hOA.m (by cases hq:sM.mo<;>rw[hq]at e<;>simp_all [dI,Value.ownBlock])
  have hCh8:Ch base w w8:=hChA.trans (Ch.of_row hg8 (fun x e=>⟨(hOA.m.at e).1,.inl (hT8 x e)⟩));have vA8:NdB w8 w.heap.size M sM:=VHas.gr vAA hg8 hT8 (by decide);have vR8:NdB w8 (w.heap.size+1) aU aP:=VHas.gr vRA hg8 hT8 (by decide);have hzN:NdZ (gU M n.id.toNat) sM:=⟨hzA.l,hzA.v,hzA.x,by simp[gU,cF];exact hzA.m,hzA.lc,hzA.vc,hzA.xc,by simp[gU,cF];exact hzA.mc,hzA.tx⟩
  have hpN:0<=(gU M n.id.toNat).peers/\(gU M n.id.toNat).peers<=5:=by show 0<=M.peers/\M.peers<=5;rw[hpmA.out];omega
  have hlN:((gU M n.id.toNat).next.length:Int)=(gU M n.id.toNat).peers:=by show (M.next.length:Int)=M.peers;rw[hpmA.out,hxlA.out];omega
  have hxN:Hid (∀ i,i<(gU M n.id.toNat).next.length->1<=aT (gU M n.id.toNat).next i/\aT (gU M n.id.toNat).next i<=(gU M n.id.toNat).log.length+1):=fun i hi=>by
   show 1<=aT M.next i/\aT M.next i<=(M.log.length:Int)+1
   exact hxxA.out i (by rw[<-hxlA.out];exact hi)
  have HN:Hid (eJ n=gU M n.id.toNat):=by show _ = _;rw[HN0.out,HAA.out]
  have HL:Hid (wJ n=dU (gU M n.id.toNat)):=by show _ = _;rw[HL0.out,HN.out]
  replace hpN:Hid (0<=(gU M n.id.toNat).peers/\(gU M n.id.toNat).peers<=5):=hpN;replace hlN:Hid (((gU M n.id.toNat).next.length:Int)=(gU M n.id.toNat).peers):=hlN;clear hg8 hT8 hOA vAA vRA hChA hil hcA hidA2;generalize gU M n.id.toNat=N at hO8 hzN hpN hlN hxN HN HL ⊢
  go_wp2_with (first|((with_reducible refine wB 27 (.tmp 1) (.tmp 30) (w.heap.size) (aJ (N) (sM)) vA8 ?_);intro W9 vA9 hg9)|fail)
  have hCh:=Ch.box hCh8 hg9 nl;have vR:NdB W9 (w.heap.size+1) aU aP:=VHas.grown vR8 hg9 (fun e=>by have:=oI e;omega);have hM:=(hO8.gr hg9 (bA vA8) (by decide) (by decide)).M;have hK:=hO8.K;replace vA9:NdB W9 w.heap.size N sM:=vA9;clear hCh8 vR8 vA8 hO8 hg9;have hd:RB W9 W9.drew:=(Below.refl _ _).drew;replace hCh:=hCh.trans (Ch.of_rb hd);replace vA9:NdB W9.drew w.heap.size N sM:=vn vA9 hd;replace vR:NdB W9.drew (w.heap.size+1) aU aP:=vn vR hd;replace hM:=hM.next hd;have hbs9:=hCh.size;clear hd
  refine cY (by kernel_rfl) (by kernel_rfl) 3 [0,1,2] [2,4] (by kernel_rfl) (by kernel_rfl)
   (fun u v=>u.grownBy v (some (w.heap.size+1))/\aG u (w.heap.size+1) 27)
   (fun W5=>NdB W5 (w.heap.size+1) N sM/\NdM W5 N sM/\Ch base w W5)
   (fun a b h hR=>⟨vn h.1 hR,h.2.1.next hR,h.2.2.trans (Ch.of_rb hR)⟩)
   [isV (aX N sM),isV (aX N sM),NetV w.heap.size (dU N),fun _ _=>True,NetV w.heap.size (dU N)]
   ⟨iR,iR,NetV.rb,fun _ _ _ h _=>h,NetV.rb,trivial⟩ ?_ ?_ (kR ?_) _ rfl rfl ?_ ?_
  ·intro i hi v a b h hx
   simp only[List.mem_cons,List.not_mem_nil,or_false]at hi;rcases hi with rfl|rfl
   ·exact NetV.gr h hx.1 hx.2
   ·exact NetV.gr h hx.1 hx.2
  ·intro i hi o ho
   simp only[List.mem_cons,List.not_mem_nil,or_false]at hi;rcases hi with rfl|rfl|rfl<;>(obtain rfl:=oI ho)
   ·exact oq rfl fun ev w' v hR E pr=>by
     have e1:=E.was 1 _;exact bD rfl e1 (vA9.next hR)
   ·exact oq rfl fun ev w' v hR E pr=>by
     have e1:=E.was 1 _;exact bD rfl e1 (vA9.next hR)
   ·refine OpOk.call rfl fun ev w' v hR E pr=>?_
    have e1:=E.eq pr 1 32;refine⟨51,#[aX N sM,.func (.func 55) #[] #[]],by simp[go_sem,e1,E.con,E.fn],(tI N sM hzN hpN.out hlN.out hxN.out _ (hM.next hR)).mono ?_⟩;rintro e w2 ⟨v2,rfl,hn,hb2⟩;exact⟨_,rfl,hb2,NetV.from hn (Nat.le_trans hbs9 hR.size)⟩
  ·refine aD rfl (aD rfl (aD rfl (aD rfl (aM ?_ trivial))))
   intro ev w5 v hR E pr;exact⟨ev (.tmp 33),w5,by simp[go_sem],rr _,E.kept pr 2 33⟩
  ·intro ev w5 v hR E hp
   have E1:ev (.tmp 31)=aX (N) (sM):=E.get hp 0 31;have E2:ev (.tmp 2)=.pointer (some ⟨w.heap.size+1,0,none⟩):=E.was 2 _;have vR':=vn vR hR;have hg:w5.grownBy (setL w5 (w.heap.size+1) 0 (aJ (N) (sM))) (some (w.heap.size+1)):=bP _ _ 0 _;exact⟨_,bU (aJ (N) (sM)) rfl E2 E1 vR' (by kernel_rfl) (cD (by kernel_rfl)),⟨hg,vR'.typed⟩,bE _ vR',(hM.next hR).gr hg (bA vR') (by decide) (by decide),Ch.box (hCh.trans (Ch.of_rb hR)) hg (by omega)⟩
  ·intro v8 w8 hP8 hk8
   have k8:NetV w.heap.size (dU N) (v8 4) w8:=hk8 4 (by decide) (nb (by kernel_rfl)) (by decide);simp only[bF,Nat.zero_add,Nat.reduceAdd,Act.put,sY,sZ,ss];obtain⟨hv9,hM9,hC9⟩:=hP8;obtain⟨q0,q1,q2,q3,q4,q5,q6,q7,q8,q9⟩:=cN hv9;go_wp2;exact bodyPost_ret (v:=.tuple #[aX N sM,v8 4]) (by simp[results,Tryz.results50,go_sem,q0,q1,q2,q3,q4,q5,q6,q7,q8,q9]) rfl (by rw[HN.out,HL.out];exact⟨sM,v8 4,rfl,hM9,hK,k8,hC9⟩)
 rw[hrm];have HA1:Hid (pT n=iO M oP):=by show _ = _;rw[HA.out,hrm];rfl
 have hl200:M.log.length<200:=by simp[gP]at hrm;omega
 clear hrm HA;have hal:=ra w7 (.cells #[.int .i64 M.term,.string { data:=#[110,111,110,101] }] 47);have vL:VHas (w7.alloc (.cells #[.int .i64 M.term,.string { data:=#[110,111,110,101] }] 47)) w7.heap.size 47 2 (lf [.int .i64 M.term,.string { data:=#[110,111,110,101] }]):=bH w7 [.int .i64 M.term,.string { data:=#[110,111,110,101] }] 47;have hgr:GRow (w7.alloc (.cells #[.int .i64 M.term,.string { data:=#[110,111,110,101] }] 47)) (some ⟨w7.heap.size,0,none⟩) (1*2) (lf [.int .i64 M.term,.string { data:=#[110,111,110,101] }]):=nJ vL
 have hon:∀ j,j<1*2->(lf [Value.int .i64 M.term,.string { data:=#[110,111,110,101] }] j).oneCell'=true:=fun j hj=>by
  have:j=0\/j=1:=by omega
  rcases this with rfl|rfl<;>rfl
 replace hb:=rt _ _ _ hb hal;replace vR:NdB (w7.alloc (.cells #[.int .i64 M.term,.string { data:=#[110,111,110,101] }] 47)) (w.heap.size+1) aU aP:=vn vR hal;have vB:NdB (w7.alloc (.cells #[.int .i64 M.term,.string { data:=#[110,111,110,101] }] 47)) w.heap.size M sM:=vn vA hal;replace hO:=hO.next hal;have hOl:GOwn (w7.alloc (.cells #[.int .i64 M.term,.string { data:=#[110,111,110,101] }] 47)) base 47 2 sM.lo M.log.length sM.lc (lf (dZ M.log)):=hO.l;have hlen:M.log.length+1<=100000000:=by omega
 have hbs2:base<=(w7.alloc (.cells #[.int .i64 M.term,.string { data:=#[110,111,110,101] }] 47)).heap.size:=Nat.le_trans hbs hb.size;clear hal vL vA
 go_wp2_with (first|(at_builtin;(with_reducible refine gF rfl (.tmp 22) (.tmp 26) Tryz.elEn rfl 27 rfl base _ sM.lo M.log.length sM.lc (by simp[go_sem]) hOl (some ⟨w7.heap.size,0,none⟩) 1 1 (lf [.int .i64 M.term,.string { data:=#[110,111,110,101] }]) (by simp[go_sem]) hgr hon hlen hbs2 ?_);intro ao' cap' w5 hown hgA;have hTA:∀ x,(Value.slice sM.lo M.log.length sM.lc).ownBlock=some x->aG _ x 47:=fun x e=>GOwn.typed hOl e;have vC:NdB w5 w.heap.size M sM:=VHas.gr vB hgA hTA (by decide))|((with_reducible refine cG rfl 24 (.tmp 28) (.tmp 27) rfl rfl w.heap.size 4 (.slice ao' (M.log.length+1) cap') (by simp[go_sem]) (by simp[go_sem]) (iO M oP) ⟨ao',cap',sM.vo,sM.vc,sM.no,sM.nc,sM.mo,sM.mc⟩ vC (by omega) (by kernel_rfl) (by kernel_rfl) (dT (by kernel_rfl)) (by simp[iO]) ?_);intro W6a vAA hgB;clear f0 f1 f2 f3 f4 f5 f6 f7 f8 f9;obtain⟨f0,f1,f2,f3,f4,f5,f6,f7,f8,f9⟩:=cN vAA)|fail)
 have hChA:Ch base w W6a:=Ch.box ((Ch.of_rb hb).trans (Ch.of_row hgA (fun x e=>⟨(GOwn.at hOl e).1,.inr (hTA x e)⟩))) hgB nl;have hbsA:base<=W6a.heap.size:=Nat.le_trans hbs hChA.size;have vRA:NdB W6a (w.heap.size+1) aU aP:=VHas.grown (VHas.gr vR hgA hTA (by decide)) hgB (fun e=>by have:=oI e;omega);have hLq:OwE W6a base ao' cap' (M.log++[⟨M.term,oP⟩]):=(OwE.more hown).gr hgB (bA vC) (by decide);have hOA:NdO W6a base (iO M oP) ⟨ao',cap',sM.vo,sM.vc,sM.no,sM.nc,sM.mo,sM.mc⟩:=⟨hLq,(hO.v.gr hgA hTA (by decide)).gr hgB (bA vC) (by decide),(hO.x.gr hgA hTA (by decide)).gr hgB (bA vC) (by decide),(hO.m.gr hgA hTA (by decide)).gr hgB (bA vC) (by decide),hO.vx,hO.vm,hO.xm⟩
 have hzA:NdZ (iO M oP) ⟨ao',cap',sM.vo,sM.vc,sM.no,sM.nc,sM.mo,sM.mc⟩:=⟨by simp[iO];omega,hzM.v,hzM.x,hzM.m,hOA.K.l,hOA.K.v,hOA.K.x,hOA.K.m,fun k hk=>by
  by_cases hkl:k<M.log.length
  ·have e1:cS (M.log++[⟨M.term,oP⟩]) k=cS M.log k:=by simp[cS,List.getElem?_append_left hkl]
   show (cS (M.log++[⟨M.term,oP⟩]) k).size<=1048576
   rw[e1];exact hzM.tx k hkl
  ·have hk2:k=M.log.length:=by simp[iO]at hk;omega
   subst hk2
   show (cS (M.log++[⟨M.term,oP⟩]) M.log.length).size<=1048576
   simp[cS]
   decide⟩
 have HAA:Hid (pT n=iO M oP):=HA1;have hmlA:Hid ((iO M oP).mat.length=n.peers.toNat):=hml;have hxlA:Hid ((iO M oP).next.length=n.peers.toNat):=hxl;have hpmA:Hid ((iO M oP).peers=n.peers):=hpm;have hcmA:Hid ((iO M oP).commit=n.commit):=hcm;have hidA:Hid ((iO M oP).id=n.id):=hid
 have hxxA:Hid (∀ i,i<n.peers.toNat->1<=aT (iO M oP).next i/\aT (iO M oP).next i<=((iO M oP).log.length:Int)+1):=fun i hi=>by
  show 1<=aT M.next i/\aT M.next i<=((M.log++([⟨M.term,oP⟩]:List En)).length:Int)+1
  rw[hxx.out i hi];simp;omega
 clear HA1 hl200 vR hml hxl hpm hcm hid hxx hgr hon hb vB hO hOl hlen hbs2 hown hgA hTA vC hgB hLq hzM;generalize iO M oP=A at vAA hOA hzA HAA hmlA hxlA hpmA hcmA hidA hxxA ⊢;have hil:n.id.toNat<A.mat.length:=by rw[hmlA.out];omega
 have hcA:0<=A.commit:=by rw[hcmA.out];exact hc
 have hidA2:Hid (A.id=(n.id.toNat:Int)):=by show _ = _;rw[hidA.out];omega
 refine (jI A ⟨ao',cap',sM.vo,sM.vc,sM.no,sM.nc,sM.mo,sM.mc⟩ hzA base n.id.toNat hidA2.out hil hcA _ hbsA hOA).mono ?_;rintro e w8 ⟨rfl,hO8,hg8⟩;generalize hsA:(⟨ao',cap',sM.vo,sM.vc,sM.no,sM.nc,sM.mo,sM.mc⟩:NdS)=sA at hO8 hg8 vAA hzA hOA ⊢;clear hsA;have hT8:∀ x,dI sA.mo=some x->aG _ x 2:=fun x e=>GOwn.typed hOA.m (by cases hq:sA.mo<;>rw[hq]at e<;>simp_all [dI,Value.ownBlock])
 have hCh8:Ch base w w8:=hChA.trans (Ch.of_row hg8 (fun x e=>⟨(hOA.m.at e).1,.inl (hT8 x e)⟩));have vA8:NdB w8 w.heap.size A sA:=VHas.gr vAA hg8 hT8 (by decide);have vR8:NdB w8 (w.heap.size+1) aU aP:=VHas.gr vRA hg8 hT8 (by decide);have hzN:NdZ (gU A n.id.toNat) sA:=⟨hzA.l,hzA.v,hzA.x,by simp[gU,cF];exact hzA.m,hzA.lc,hzA.vc,hzA.xc,by simp[gU,cF];exact hzA.mc,hzA.tx⟩
 have hpN:0<=(gU A n.id.toNat).peers/\(gU A n.id.toNat).peers<=5:=by show 0<=A.peers/\A.peers<=5;rw[hpmA.out];omega
 have hlN:((gU A n.id.toNat).next.length:Int)=(gU A n.id.toNat).peers:=by show (A.next.length:Int)=A.peers;rw[hpmA.out,hxlA.out];omega
 have hxN:Hid (∀ i,i<(gU A n.id.toNat).next.length->1<=aT (gU A n.id.toNat).next i/\aT (gU A n.id.toNat).next i<=(gU A n.id.toNat).log.length+1):=fun i hi=>by
  show 1<=aT A.next i/\aT A.next i<=(A.log.length:Int)+1
  exact hxxA.out i (by rw[<-hxlA.out];exact hi)
 have HN:Hid (eJ n=gU A n.id.toNat):=by show _ = _;rw[HN0.out,HAA.out]
 have HL:Hid (wJ n=dU (gU A n.id.toNat)):=by show _ = _;rw[HL0.out,HN.out]
 replace hpN:Hid (0<=(gU A n.id.toNat).peers/\(gU A n.id.toNat).peers<=5):=hpN;replace hlN:Hid (((gU A n.id.toNat).next.length:Int)=(gU A n.id.toNat).peers):=hlN;clear hg8 hT8 hOA vAA vRA hChA hil hcA hidA2;generalize gU A n.id.toNat=N at hO8 hzN hpN hlN hxN HN HL ⊢
 go_wp2_with (first|((with_reducible refine wB 27 (.tmp 1) (.tmp 30) (w.heap.size) (aJ (N) (sA)) vA8 ?_);intro W9 vA9 hg9)|fail)
 have hCh:=Ch.box hCh8 hg9 nl;have vR:NdB W9 (w.heap.size+1) aU aP:=VHas.grown vR8 hg9 (fun e=>by have:=oI e;omega);have hM:=(hO8.gr hg9 (bA vA8) (by decide) (by decide)).M;have hK:=hO8.K;replace vA9:NdB W9 w.heap.size N sA:=vA9;clear hCh8 vR8 vA8 hO8 hg9;have hd:RB W9 W9.drew:=(Below.refl _ _).drew;replace hCh:=hCh.trans (Ch.of_rb hd);replace vA9:NdB W9.drew w.heap.size N sA:=vn vA9 hd;replace vR:NdB W9.drew (w.heap.size+1) aU aP:=vn vR hd;replace hM:=hM.next hd;have hbs9:=hCh.size;clear hd
 refine cY (by kernel_rfl) (by kernel_rfl) 3 [0,1,2] [2,4] (by kernel_rfl) (by kernel_rfl)
  (fun u v=>u.grownBy v (some (w.heap.size+1))/\aG u (w.heap.size+1) 27)
  (fun W5=>NdB W5 (w.heap.size+1) N sA/\NdM W5 N sA/\Ch base w W5)
  (fun a b h hR=>⟨vn h.1 hR,h.2.1.next hR,h.2.2.trans (Ch.of_rb hR)⟩)
  [isV (aX N sA),isV (aX N sA),NetV w.heap.size (dU N),fun _ _=>True,NetV w.heap.size (dU N)]
  ⟨iR,iR,NetV.rb,fun _ _ _ h _=>h,NetV.rb,trivial⟩ ?_ ?_ (kR ?_) _ rfl rfl ?_ ?_
 ·intro i hi v a b h hx
  simp only[List.mem_cons,List.not_mem_nil,or_false]at hi;rcases hi with rfl|rfl
  ·exact NetV.gr h hx.1 hx.2
  ·exact NetV.gr h hx.1 hx.2
 ·intro i hi o ho
  simp only[List.mem_cons,List.not_mem_nil,or_false]at hi;rcases hi with rfl|rfl|rfl<;>(obtain rfl:=oI ho)
  ·exact oq rfl fun ev w' v hR E pr=>by
    have e1:=E.was 1 _;exact bD rfl e1 (vA9.next hR)
  ·exact oq rfl fun ev w' v hR E pr=>by
    have e1:=E.was 1 _;exact bD rfl e1 (vA9.next hR)
  ·refine OpOk.call rfl fun ev w' v hR E pr=>?_
   have e1:=E.eq pr 1 32;refine⟨51,#[aX N sA,.func (.func 55) #[] #[]],by simp[go_sem,e1,E.con,E.fn],(tI N sA hzN hpN.out hlN.out hxN.out _ (hM.next hR)).mono ?_⟩;rintro e w2 ⟨v2,rfl,hn,hb2⟩;exact⟨_,rfl,hb2,NetV.from hn (Nat.le_trans hbs9 hR.size)⟩
 ·refine aD rfl (aD rfl (aD rfl (aD rfl (aM ?_ trivial))))
  intro ev w5 v hR E pr;exact⟨ev (.tmp 33),w5,by simp[go_sem],rr _,E.kept pr 2 33⟩
 ·intro ev w5 v hR E hp
  have E1:ev (.tmp 31)=aX (N) (sA):=E.get hp 0 31;have E2:ev (.tmp 2)=.pointer (some ⟨w.heap.size+1,0,none⟩):=E.was 2 _;have vR':=vn vR hR;have hg:w5.grownBy (setL w5 (w.heap.size+1) 0 (aJ (N) (sA))) (some (w.heap.size+1)):=bP _ _ 0 _;exact⟨_,bU (aJ (N) (sA)) rfl E2 E1 vR' (by kernel_rfl) (cD (by kernel_rfl)),⟨hg,vR'.typed⟩,bE _ vR',(hM.next hR).gr hg (bA vR') (by decide) (by decide),Ch.box (hCh.trans (Ch.of_rb hR)) hg (by omega)⟩
 ·intro v8 w8 hP8 hk8
  have k8:NetV w.heap.size (dU N) (v8 4) w8:=hk8 4 (by decide) (nb (by kernel_rfl)) (by decide);simp only[bF,Nat.zero_add,Nat.reduceAdd,Act.put,sY,sZ,ss];obtain⟨hv9,hM9,hC9⟩:=hP8;obtain⟨q0,q1,q2,q3,q4,q5,q6,q7,q8,q9⟩:=cN hv9;go_wp2;exact bodyPost_ret (v:=.tuple #[aX N sA,v8 4]) (by simp[results,Tryz.results50,go_sem,q0,q1,q2,q3,q4,q5,q6,q7,q8,q9]) rfl (by rw[HN.out,HL.out];exact⟨sA,v8 4,rfl,hM9,hK,k8,hC9⟩)
end
end Go.Proofs.YtbabakgjkloabaaGreatDoor
