/-
  Helpers: LawVotes.
-/
import Derived.Test.YtbabakgjkloabaaGreatDoorPack29
set_option linter.unusedVariables false
set_option linter.unusedSimpArgs false
set_option maxRecDepth 100000
set_option maxHeartbeats 16000000
namespace Go.Proofs.YtbabakgjkloabaaGreatDoor
section
open Go.ChangeShapes Go.WideShapes Go.ChangeAt Go Go.RowKit Go.Deep Go.Joins
attribute [local go_sem ↓] Go.wp_at_zero Go.wp_at_succ
theorem tX(ao:Option Addr)(k cap:Nat)(hn:k<=maxLen)(w:World)(hr:ByRow w w.heap.size ao k)(aL aE aO:Addr)(hG:GlE w aL aE aO):Calls Tryz.prog 3 #[.slice ao k cap] w fun e w'=>e=.returned (.bool true)/\Below w.heap.size w w':=by
 have hB:RB w w:=rr w;go_enter Tryz.func3,Tryz.ntmps3;refine aW fun K0 hK0=>?_
 go_wp2;refine hK0.out _ _ ?_;clear hK0;refine aW fun K0 hK0=>?_
 go_wp2_with fail
 refine (BL ao k cap (by unfold maxLen at hn;omega) _).mono ?_;rintro e w1 ⟨rfl,he⟩;subst he
 by_cases hbig:4096<k
 ·have hd:decide (4096<k)=true:=by simp[hbig]
  go_wp2;go_ret;exact⟨rfl,hB⟩
 have hd:decide (4096<k)=false:=by simp[hbig]
 have hk:k<=4096:=by omega
 clear hbig hn;go_wp2;refine hK0.out _ _ ?_;clear hK0 hd;refine aW fun K0 hK0=>?_
 go_wp2_with fail
 refine (qW ao k cap hk _ hr).mono ?_;rintro e wn ⟨n,s,m,eo,ec,rfl,M3,hz,hgd,hE,hmz,hmx,hb2⟩;obtain⟨lo3,lc3,vo3,vc3,no3,nc3,mo3,mc3⟩:=s;replace hB:=rt _ _ _ hB hb2;have vZ:NdB _ wn.heap.size aU aP:=(aH wn aU aP).next (ra _ (.cells (bZ gW none 0).toArray 29));have vY:=bJ (wn.alloc (.cells (aJ aU aP).toArray 27)) gW none 0;rw[World.size_alloc]at vY;have hal:=rt _ _ _ (ra wn (.cells (aJ aU aP).toArray 27)) (ra _ (.cells (bZ gW none 0).toArray 29))
 go_wp2_with (first|((with_reducible refine wB 27 (.tmp 3) (.tmp 15) (wn.heap.size) (aJ (n) (⟨lo3,lc3,vo3,vc3,no3,nc3,mo3,mc3⟩)) vZ ?_);intro W1 vW1 hg1;have vY1:MsB W1 (wn.heap.size+1) gW none 0:=VHas.grown vY hg1 (fun e=>by have:=oI e;omega))|((with_reducible refine wB 29 (.tmp 4) (.tmp 16) (wn.heap.size+1) (bZ m eo ec) vY1 ?_);intro W vE hg2)|fail)
 have hgb:=aV (aV hal hg1 nl) hg2 (by omega);have h3:BxLw W wn.heap.size n ⟨lo3,lc3,vo3,vc3,no3,nc3,mo3,mc3⟩:=⟨VHas.grown vW1 hg2 (fun e=>by have:=oI e;omega),M3.next hgb⟩
 have hm:BxMw W (wn.heap.size+1) m eo ec:=⟨vE,hE.next hgb⟩
 replace hB:=rt _ _ _ hB hgb;clear hgb hg1 hg2 vE vW1 vY vZ vY1 hal M3 hE hb2;generalize wn.heap.size+1=b4 at hm ⊢;generalize wn.heap.size=b3 at h3 ⊢;refine hK0.out _ _ ?_;clear hK0;refine aW fun K0 hK0=>?_
 obtain⟨f0,f1,f2,f3,f4,f5,f6,f7,f8,f9⟩:=cN h3.1;obtain⟨g0,g1,g2,g3,g4,g5,g6,g7,g8⟩:=cM hm.1
 go_wp2_with fail
 refine (zV n ⟨lo3,lc3,vo3,vc3,no3,nc3,mo3,mc3⟩ hz m eo ec hmz hmx aL aE aO _ (hG.next hB) h3.2 hm.2).mono ?_;rintro e wn ⟨sA,va,rfl,M5,kA,NA,hb2⟩;clear f0 f1 f2 f3 f4 f5 f6 f7 f8 f9 g0 g1 g2 g3 g4 g5 g6 g7 g8;obtain⟨lo5,lc5,vo5,vc5,no5,nc5,mo5,mc5⟩:=sA;replace hB:=rt _ _ _ hB hb2;replace h3:=BxLw.next h3 hb2;replace hm:=BxMw.next hm hb2;clear hb2;have hal:=ra wn (.cells (aJ aU aP).toArray 27);have vZ:=aH wn aU aP
 go_wp2_with (first|((with_reducible refine wB 27 (.tmp 5) (.tmp 21) (wn.heap.size) (aJ (ivN n m) (⟨lo5,lc5,vo5,vc5,no5,nc5,mo5,mc5⟩)) vZ ?_);intro W vW hg)|fail)
 have hgb:=aV hal hg nl;replace hB:=rt _ _ _ hB hgb;replace h3:=BxLw.next h3 hgb;replace hm:=BxMw.next hm hgb;replace M5:=NdM.next M5 hgb;replace NA:=NetV.rb _ _ _ NA hgb;clear hgb;have h5:BxLw W wn.heap.size (ivN n m) ⟨lo5,lc5,vo5,vc5,no5,nc5,mo5,mc5⟩:=⟨vW,M5⟩
 clear vW M5 hal vZ hg;generalize wn.heap.size=b5 at h5 ⊢;refine hK0.out _ _ ?_;clear hK0;have hq:=hgd.eqr m;have fN:=hgd.ivN m;have fL:=hgd.ivL m;refine aW fun K1 hK1=>?_
 refine aW fun K0 hK0=>?_
 obtain⟨f0,f1,f2,f3,f4,f5,f6,f7,f8,f9⟩:=cN h3.1;obtain⟨g0,g1,g2,g3,g4,g5,g6,g7,g8⟩:=cM hm.1
 go_wp2_with fail
 refine (qY n ⟨lo3,lc3,vo3,vc3,no3,nc3,mo3,mc3⟩ hz m eo ec hmz hmx _ h3.2 hm.2).mono ?_;rintro e wn ⟨sB,vb,he,OB,NB,hb2⟩;clear f0 f1 f2 f3 f4 f5 f6 f7 f8 f9 g0 g1 g2 g3 g4 g5 g6 g7 g8;rw[hq.1]at he OB;rw[hq.2]at NB;subst he;obtain⟨lo7,lc7,vo7,vc7,no7,nc7,mo7,mc7⟩:=sB;have M7:=OB.M;clear OB;replace hB:=rt _ _ _ hB hb2;replace h3:=BxLw.next h3 hb2;replace hm:=BxMw.next hm hb2;replace NA:=NetV.rb _ _ _ NA hb2;replace h5:=BxLw.next h5 hb2;clear hb2;have hal:=ra wn (.cells (aJ aU aP).toArray 27);have vZ:=aH wn aU aP
 go_wp2_with (first|((with_reducible refine wB 27 (.tmp 7) (.tmp 27) (wn.heap.size) (aJ (ivN n m) (⟨lo7,lc7,vo7,vc7,no7,nc7,mo7,mc7⟩)) vZ ?_);intro W vW hg)|fail)
 have hgb:=aV hal hg nl;replace hB:=rt _ _ _ hB hgb;replace h3:=BxLw.next h3 hgb;replace hm:=BxMw.next hm hgb;replace NA:=NetV.rb _ _ _ NA hgb;replace h5:=BxLw.next h5 hgb;replace M7:=NdM.next M7 hgb;replace NB:=NetV.rb _ _ _ NB hgb;clear hgb;have h7:BxLw W wn.heap.size (ivN n m) ⟨lo7,lc7,vo7,vc7,no7,nc7,mo7,mc7⟩:=⟨vW,M7⟩
 clear vW M7 hal vZ hg;generalize wn.heap.size=b7 at h7 ⊢;refine hK0.out _ _ ?_;clear hK0;refine aW fun K0 hK0=>?_
 refine hU (by kernel_rfl) RB rr rt
  [isV (aX (ivN n m) ⟨lo5,lc5,vo5,vc5,no5,nc5,mo5,mc5⟩),isV (aX (ivN n m) ⟨lo7,lc7,vo7,vc7,no7,nc7,mo7,mc7⟩),isV (.bool true),isV (.bool false),isV (.bool false),isV (va),isV (vb),isV (.bool true),isV (.bool false),isV (.bool false)]
  ⟨iR,iR,iR,iR,iR,iR,iR,iR,iR,iR,trivial⟩ rfl ?_ ?_
 ·refine⟨?_,?_,?_,?_,?_,?_,?_,?_,?_,?_,trivial⟩
  ·exact oq rfl fun ev w' v hR E pr=>by
    have e1:=E.was 5 _;exact bD rfl e1 (h5.next hR).1
  ·exact oq rfl fun ev w' v hR E pr=>by
    have e1:=E.was 7 _;exact bD rfl e1 (h7.next hR).1
  ·refine OpOk.call rfl fun ev w' v hR E pr=>?_
   have e1:=E.eq pr 0 29;have e2:=E.eq pr 1 30;refine⟨9,#[aX (ivN n m) ⟨lo5,lc5,vo5,vc5,no5,nc5,mo5,mc5⟩,aX (ivN n m) ⟨lo7,lc7,vo7,vc7,no7,nc7,mo7,mc7⟩],by simp[go_sem,e1,e2,E.fn],(nV (ivN n m) ⟨lo5,lc5,vo5,vc5,no5,nc5,mo5,mc5⟩ ⟨lo7,lc7,vo7,vc7,no7,nc7,mo7,mc7⟩ fN.1 fN.2.1 fN.2.2.1 fN.2.2.2 w' (h5.next hR).2 (h7.next hR).2).mono ?_⟩;rintro e9 w9 ⟨rfl,hb9⟩;exact⟨_,rfl,hb9,rfl⟩
  ·exact o1 2 31
  ·exact o1 3 32
  ·exact OpOk.sGet rr 4 33 false (fun _ _ h=>h) _ (fun _=>rfl) fun ev w' v hR E pr=>by
    have e1:=E.was 6 _;simp[go_sem,e1]
  ·exact OpOk.sGet rr 4 33 false (fun _ _ h=>h) _ (fun _=>rfl) fun ev w' v hR E pr=>by
    have e1:=E.was 8 _;simp[go_sem,e1]
  ·refine OpOk.sCall 4 33 false (fun _ _ h=>h) fun ev w' v hR E pr=>?_
   have e1:=E.eq pr 5 34;have e2:=E.eq pr 6 35;refine⟨10,#[va,vb],by simp[go_sem,e1,e2,E.fn],(yH (ivL n m) va vb _ _ fL.1 fL.2 w' (NetV.rb _ _ _ NA hR) (NetV.rb _ _ _ NB hR)).mono ?_⟩;rintro e9 w9 ⟨rfl,hb9⟩;exact⟨_,rfl,hb9,rfl⟩
  ·exact OpOk.sGet rr 4 33 false (fun _ _ h=>h) _ (fun _=>rfl) fun ev w' v hR E pr=>by
    have e1:=E.eq pr 7 36;simp[go_sem,e1]
  ·exact zS 4 33 8 37 nt
 intro v V6 hR hp;obtain⟨-,-,-,-,-,-,-,-,-,p9,-⟩:=hp;replace p9:v 9=.bool false:=p9;simp only[bF,Nat.zero_add,Nat.reduceAdd,p9,Act.put,sY,sZ,ss];clear p9;clear NB h7;replace hB:=rt _ _ _ hB hR;replace h3:=BxLw.next h3 hR;replace hm:=BxMw.next hm hR;replace NA:=NetV.rb _ _ _ NA hR;replace h5:=BxLw.next h5 hR;clear hR;refine hK0.out _ _ ?_;clear hK0;go_wp2;refine hK1.out _ _ ?_;clear hK1;refine aW fun K1 hK1=>?_
 obtain⟨f0,f1,f2,f3,f4,f5,f6,f7,f8,f9⟩:=cN h3.1
 go_wp2_with fail
 refine (eW n ⟨lo3,lc3,vo3,vc3,no3,nc3,mo3,mc3⟩ hz _ h3.2).mono ?_;rintro e wn ⟨rfl,hb2⟩;replace hB:=rt _ _ _ hB hb2;replace h3:=BxLw.next h3 hb2;replace hm:=BxMw.next hm hb2;replace NA:=NetV.rb _ _ _ NA hb2;replace h5:=BxLw.next h5 hb2;clear hb2;clear f0 f1 f2 f3 f4 f5 f6 f7 f8 f9;rw[hgd.R];rcases bq (bY n) with hBn|hBn
 rotate_left
 ·rw[hBn]
  rw[(xQ m hBn).1]at h5;rw[(xQ m hBn).2]at NA;obtain⟨vao,vcap,vl,eva,hvl,_⟩:=NA;obtain rfl:vl=[]:=by simpa using hvl
  replace eva:va=.slice vao 0 vcap:=eva;subst eva;clear hvl
  go_upto_region 9 with fail
  refine hU (by kernel_rfl) RB rr rt
   [isV (aX n ⟨lo3,lc3,vo3,vc3,no3,nc3,mo3,mc3⟩),isV (.bool false),isV (.bool true),isV (.bool true),isV (aX aU ⟨lo5,lc5,vo5,vc5,no5,nc5,mo5,mc5⟩),isV (aX aU aP),isV (.bool true),isV (.bool true),isV (.bool true),isV (.slice vao 0 vcap),isV (.int .i64 0),isV (.bool true),isV (.bool true),isV (.bool true)]
   ⟨iR,iR,iR,iR,iR,iR,iR,iR,iR,iR,iR,iR,iR,iR,trivial⟩ rfl ?_ ?_
  ·refine⟨?_,?_,?_,?_,?_,?_,?_,?_,?_,?_,?_,?_,?_,?_,trivial⟩
   ·exact oq rfl fun ev w' v hR E pr=>by
     have e1:=E.was 3 _;exact bD rfl e1 (h3.next hR).1
   ·refine OpOk.call rfl fun ev w' v hR E pr=>?_
    have e1:=E.eq pr 0 42;refine⟨12,#[aX n ⟨lo3,lc3,vo3,vc3,no3,nc3,mo3,mc3⟩],by simp[go_sem,e1,E.fn],(jT n ⟨lo3,lc3,vo3,vc3,no3,nc3,mo3,mc3⟩ hz aL aE aO w' (hG.next (rt _ _ _ hB hR)).g (h3.next hR).2).mono ?_⟩;rintro e9 w9 ⟨rfl,hb9⟩;rw[hBn];exact⟨_,rfl,hb9,rfl⟩
   ·exact o1 1 43
   ·exact o1 2 44
   ·exact OpOk.sGet rr 3 45 true (fun _ _ h=>h) _ (fun _=>rfl) fun ev w' v hR E pr=>by
     have e1:=E.was 5 _;exact bD rfl e1 (h5.next hR).1
   ·exact OpOk.sGet rr 3 45 true (fun _ _ h=>h) _ (fun _=>rfl) fun ev w' v hR E pr=>by
     first|kernel_rfl|simp[go_sem,aX,aU,aP]
   ·refine OpOk.sCall 3 45 true (fun _ _ h=>h) fun ev w' v hR E pr=>?_
    have e1:=E.eq pr 4 46;have e2:=E.eq pr 5 47;refine⟨9,#[aX aU ⟨lo5,lc5,vo5,vc5,no5,nc5,mo5,mc5⟩,aX aU aP],by simp[go_sem,e1,e2,E.fn],(nV aU ⟨lo5,lc5,vo5,vc5,no5,nc5,mo5,mc5⟩ aP AG.1 AG.2.1 AG.2.2.1 AG.2.2.2 w' (h5.next hR).2 (GL _)).mono ?_⟩;rintro e9 w9 ⟨rfl,hb9⟩;exact⟨_,rfl,hb9,rfl⟩
   ·exact zS 3 45 6 48 nt
   ·exact o1 7 49
   ·exact OpOk.sGet rr 8 50 true (fun _ _ h=>h) _ (fun _=>rfl) fun ev w' v hR E pr=>by
     have e1:=E.was 6 _;simp[go_sem,e1]
   ·exact OpOk.sGet rr 8 50 true (fun _ _ h=>h) _ (fun _=>rfl) fun ev w' v hR E pr=>by
     have e1:=E.eq pr 9 51;simp[go_sem,e1]
   ·exact OpOk.sGet rr 8 50 true (fun _ _ h=>h) _ (fun _=>rfl) fun ev w' v hR E pr=>by
     have e1:=E.eq pr 10 52;simp[go_sem,E.con,e1]
   ·exact zS 8 50 11 53 nt
   ·exact o1 12 54
  intro v V9 hR hp;obtain⟨-,-,-,-,-,-,-,-,-,-,-,-,-,p13,-⟩:=hp;replace p13:v 13=.bool true:=p13;simp only[bF,Nat.zero_add,Nat.reduceAdd,p13,Act.put,sY,sZ,ss];clear p13;replace hB:=rt _ _ _ hB hR;replace h3:=BxLw.next h3 hR;replace hm:=BxMw.next hm hR;replace h5:=BxLw.next h5 hR;clear hR;go_wp2;go_ret;exact⟨rfl,hB⟩
 rw[hBn];go_wp2;refine hK1.out _ _ ?_;clear hK1;have hok:=hgd.ok hBn;rw[(zT m hBn).1]at h5 kA;rw[(zT m hBn).2]at NA;have hT:=TrnW.rcv hok m;have hall:=CZ n m;have hzX:NdZ (cK n m) ⟨lo5,lc5,vo5,vc5,no5,nc5,mo5,mc5⟩:=(hok.rcv m).zz (L2 hz.tx hmz) kA.l kA.v kA.x kA.m;have hBX:bY (cK n m)=true:=(hok.rcv m).B;have hfL:(eT n m).length<=1048576:=by rw[<-(zT m hBn).2];exact fL.1
 generalize cK n m=X at h5 hT hall hzX hBX;generalize eT n m=L at NA hall hfL;replace NA:=NetV.from NA (Nat.zero_le _)
 obtain⟨vao,vcap,vl,eva,hvl,NB⟩:=NA;have evl:L.length=vl.length:=by rw[<-hvl,List.length_map]
 replace eva:va=.slice vao vl.length vcap:=eva;subst eva;clear hm hgd fN fL hq kA
 go_wp2_with fail
 go_loopw [9] (fun x wr=>∃ i:Nat,i<=vl.length/\x=.int .i64 (i:Int)/\RB w1 wr/\BxLw wr b3 n ⟨lo3,lc3,vo3,vc3,no3,nc3,mo3,mc3⟩/\BxLw wr b5 X ⟨lo5,lc5,vo5,vc5,no5,nc5,mo5,mc5⟩/\NetO wr 0 vao vcap vl) (fun x _=>vl.length-(intOf x).toNat)
 case atStart=>exact⟨0,Nat.zero_le _,rfl,hB,h3,h5,NB⟩
 case round=>
  clear hB h3 h5 NB;obtain⟨i,hi,rfl,hB,h3,h5,NB⟩:=hrel
  by_cases hlt:i<vl.length
  ·obtain⟨⟨zm,ze,zc⟩,hy⟩:∃ z,vl[i]?=some z:=⟨vl[i],by simp[hlt]⟩
   have hzm:=hall zm (by rw[<-hvl];exact List.mem_map_of_mem (List.mem_of_getElem? hy));have ry:=GOwn.lrow NB.o (dX vl);obtain⟨gn,eza,_,_⟩:=GOwn.vhas NB.o (by omega);subst eza;have f1:=bI ry hy 1 (by omega);have f2:=bI ry hy 2 (by omega);simp[lf,hzm.1,hzm.2]at f1 f2;clear ry hy hzm;have hi0:(0:Int)<=(i:Int):=by omega
   have hil:(i:Int)<(vl.length:Int):=by omega
   have hwi:IntKind.i64.wrap ((i:Int)+1)=(i:Int)+1:=wi
   go_wp2_with fail
   refine bQ (by kernel_rfl) (by kernel_rfl) RB rr rt
    [isV (.slice (some ⟨gn,0,none⟩) vl.length vcap),isV (.int .i64 (i:Int)),isV (.pointer (some ⟨gn,i*9,none⟩)),isV (.pointer (some ⟨gn,i*9+1,none⟩)),isV (.int .i64 X.term),isV (.pointer (some ⟨b5,2,none⟩)),isV (.int .i64 X.term),isV (.bool false),isV (.bool false),isV (.slice (some ⟨gn,0,none⟩) vl.length vcap),isV (.int .i64 (i:Int)),isV (.pointer (some ⟨gn,i*9,none⟩)),isV (.pointer (some ⟨gn,i*9+2,none⟩)),isV (.int .i64 n.id),isV (.pointer (some ⟨b3,0,none⟩)),isV (.int .i64 n.id),isV (.bool false),isV (.bool false)]
    ⟨iR,iR,iR,iR,iR,iR,iR,iR,iR,iR,iR,iR,iR,iR,iR,iR,iR,iR,trivial⟩ rfl ?_ ?_
   ·refine⟨?_,?_,?_,?_,?_,?_,?_,?_,?_,?_,?_,?_,?_,?_,?_,?_,?_,?_,trivial⟩
    ·exact oq rfl fun ev w' v hR E pr=>by
      replace hR:=RB.dr hR;have e1:=E.was 6 _;simp[go_sem,e1]
    ·exact oq rfl fun ev w' v hR E pr=>by
      replace hR:=RB.dr hR;have e1:=E.was 9 _;simp[go_sem,e1]
    ·exact oq rfl fun ev w' v hR E pr=>by
      replace hR:=RB.dr hR;have e1:=E.eq pr 0 61;have e2:=E.eq pr 1 62;simp[go_sem,hi0,hil,e1,e2]
    ·exact oq rfl fun ev w' v hR E pr=>by
      replace hR:=RB.dr hR;have e1:=E.eq pr 2 63;simp[go_sem,e1]
    ·exact oq rfl fun ev w' v hR E pr=>by
      replace hR:=RB.dr hR;have e1:=E.eq pr 3 64;have cc:=aB hR nl f1;simp[go_sem,cc,e1]
    ·exact oq rfl fun ev w' v hR E pr=>by
      replace hR:=RB.dr hR;have e1:=E.was 5 _;simp[go_sem,e1]
    ·exact oq rfl fun ev w' v hR E pr=>by
      replace hR:=RB.dr hR;have e1:=E.eq pr 5 66;have cc:=(h5.next hR).1.cell (j:=2) (by omega);simp[lf]at cc;simp[go_sem,cc,e1]
    ·exact oq rfl fun ev w' v hR E pr=>by
      replace hR:=RB.dr hR;have e1:=E.eq pr 4 65;have e2:=E.eq pr 6 67;simp[go_sem,e1,e2]
    ·exact oq rfl fun ev w' v hR E pr=>by
      replace hR:=RB.dr hR;have e1:=E.eq pr 7 68;simp[go_sem,e1]
    ·exact OpOk.sGet rr 8 69 false (fun _ _ h=>h) _ (fun _=>rfl) fun ev w' v hR E pr=>by
      replace hR:=RB.dr hR;have e1:=E.was 6 _;simp[go_sem,e1]
    ·exact OpOk.sGet rr 8 69 false (fun _ _ h=>h) _ (fun _=>rfl) fun ev w' v hR E pr=>by
      replace hR:=RB.dr hR;have e1:=E.was 9 _;simp[go_sem,e1]
    ·exact OpOk.sGet rr 8 69 false (fun _ _ h=>h) _ (fun _=>rfl) fun ev w' v hR E pr=>by
      replace hR:=RB.dr hR;have e1:=E.eq pr 9 70;have e2:=E.eq pr 10 71;simp[go_sem,hi0,hil,e1,e2]
    ·exact OpOk.sGet rr 8 69 false (fun _ _ h=>h) _ (fun _=>rfl) fun ev w' v hR E pr=>by
      replace hR:=RB.dr hR;have e1:=E.eq pr 11 72;simp[go_sem,e1]
    ·exact OpOk.sGet rr 8 69 false (fun _ _ h=>h) _ (fun _=>rfl) fun ev w' v hR E pr=>by
      replace hR:=RB.dr hR;have e1:=E.eq pr 12 73;have cc:=aB hR nl f2;simp[go_sem,cc,e1]
    ·exact OpOk.sGet rr 8 69 false (fun _ _ h=>h) _ (fun _=>rfl) fun ev w' v hR E pr=>by
      replace hR:=RB.dr hR;have e1:=E.was 3 _;simp[go_sem,e1]
    ·exact OpOk.sGet rr 8 69 false (fun _ _ h=>h) _ (fun _=>rfl) fun ev w' v hR E pr=>by
      replace hR:=RB.dr hR;have e1:=E.eq pr 14 75;have cc:=(h3.next hR).1.cell (j:=0) (by omega);simp[lf]at cc;simp[go_sem,cc,e1]
    ·exact OpOk.sGet rr 8 69 false (fun _ _ h=>h) _ (fun _=>rfl) fun ev w' v hR E pr=>by
      replace hR:=RB.dr hR;have e1:=E.eq pr 13 74;have e2:=E.eq pr 15 76;simp[go_sem,e1,e2]
    ·exact oq rfl fun ev w' v hR E pr=>by
      replace hR:=RB.dr hR;have e1:=E.eq pr 8 69;have e2:=E.eq pr 16 77;simp[go_sem,E.con,e1,e2]
   intro v V13 hR hp;replace hR:=RB.dr hR;obtain⟨-,-,-,-,-,-,-,-,-,-,-,-,-,-,-,-,-,p17,-⟩:=hp;replace p17:v 17=.bool false:=p17;simp only[bF,Nat.zero_add,Nat.reduceAdd,p17,Act.put,sY,sZ,ss];clear p17;replace hB:=rt _ _ _ hB hR;replace h3:=h3.next hR;replace h5:=h5.next hR;replace NB:=NB.next hR;go_wp2
   go_roundw
   case rel=>exact⟨i+1,by omega,by go_num,hB,h3,h5,NB⟩
   case measure=>simp[intOf];omega
  have hge:¬ ((i:Int)<(vl.length:Int)):=by omega
  clear NB hall
  go_upto_region 15 with fail
  have hTt:=hT.t;have hTc:=hT.c;rcases Int.lt_or_eq_of_le hTt with hgt|hgt
  ·refine hU (by kernel_rfl) RB rr rt
    [isV (aX X ⟨lo5,lc5,vo5,vc5,no5,nc5,mo5,mc5⟩),isV (.bool true),isV (.bool true),isV (.pointer (some ⟨b5,2,none⟩)),isV (.int .i64 X.term),isV (.pointer (some ⟨b3,2,none⟩)),isV (.int .i64 n.term),isV (.bool true),isV (.bool true),isV (.bool true),isV (.pointer (some ⟨b5,2,none⟩)),isV (.int .i64 X.term),isV (.pointer (some ⟨b3,2,none⟩)),isV (.int .i64 n.term),isV (.bool true),isV (.bool true),isV undef,isV undef,isV undef,isV (.bool true),isV (.bool true),isV undef,isV undef,isV undef,isV undef,isV undef,isV (.bool true),isV (.bool true),isV (.bool true),isV (.pointer (some ⟨b5,6,none⟩)),isV (.int .i64 X.commit),isV (.pointer (some ⟨b3,6,none⟩)),isV (.int .i64 n.commit),isV (.bool true),isV (.bool true),isV (.bool true)]
    ⟨iR,iR,iR,iR,iR,iR,iR,iR,iR,iR,iR,iR,iR,iR,iR,iR,iR,iR,iR,iR,iR,iR,iR,iR,iR,iR,iR,iR,iR,iR,iR,iR,iR,iR,iR,iR,trivial⟩ rfl ?_ ?_
   ·refine⟨?_,?_,?_,?_,?_,?_,?_,?_,?_,?_,?_,?_,?_,?_,?_,?_,?_,?_,?_,?_,?_,?_,?_,?_,?_,?_,?_,?_,?_,?_,?_,?_,?_,?_,?_,?_,trivial⟩
    ·exact oq rfl fun ev w' v hR E pr=>by
      have e1:=E.was 5 _;exact bD rfl e1 (h5.next hR).1
    ·refine OpOk.call rfl fun ev w' v hR E pr=>?_
     have e1:=E.eq pr 0 79;refine⟨12,#[aX X ⟨lo5,lc5,vo5,vc5,no5,nc5,mo5,mc5⟩],by simp[go_sem,e1,E.fn],(jT X ⟨lo5,lc5,vo5,vc5,no5,nc5,mo5,mc5⟩ hzX aL aE aO w' (hG.next (rt _ _ _ hB hR)).g (h5.next hR).2).mono ?_⟩;rintro e9 w9 ⟨rfl,hb9⟩;rw[hBX];exact⟨_,rfl,hb9,rfl⟩
    ·exact o1 1 80
    ·exact OpOk.sGet rr 2 81 true (fun _ _ h=>h) _ (fun _=>rfl) fun ev w' v hR E pr=>by
      have e1:=E.was 5 _;simp[go_sem,e1]
    ·exact OpOk.sGet rr 2 81 true (fun _ _ h=>h) _ (fun _=>rfl) fun ev w' v hR E pr=>by
      have e1:=E.eq pr 3 82;have cc:=(h5.next hR).1.cell (j:=2) (by omega);simp[lf]at cc;simp[go_sem,cc,e1]
    ·exact OpOk.sGet rr 2 81 true (fun _ _ h=>h) _ (fun _=>rfl) fun ev w' v hR E pr=>by
      have e1:=E.was 3 _;simp[go_sem,e1]
    ·exact OpOk.sGet rr 2 81 true (fun _ _ h=>h) _ (fun _=>rfl) fun ev w' v hR E pr=>by
      have e1:=E.eq pr 5 84;have cc:=(h3.next hR).1.cell (j:=2) (by omega);simp[lf]at cc;simp[go_sem,cc,e1]
    ·exact OpOk.sGet rr 2 81 true (fun _ _ h=>h) _ (fun _=>rfl) fun ev w' v hR E pr=>by
      have e1:=E.eq pr 4 83;have e2:=E.eq pr 6 85;simp[go_sem,hTt,e1,e2]
    ·exact zS 2 81 7 86 nt
    ·exact o1 8 87
    ·exact OpOk.sGet rr 9 88 true (fun _ _ h=>h) _ (fun _=>rfl) fun ev w' v hR E pr=>by
      have e1:=E.was 5 _;simp[go_sem,e1]
    ·exact OpOk.sGet rr 9 88 true (fun _ _ h=>h) _ (fun _=>rfl) fun ev w' v hR E pr=>by
      have e1:=E.eq pr 10 89;have cc:=(h5.next hR).1.cell (j:=2) (by omega);simp[lf]at cc;simp[go_sem,cc,e1]
    ·exact OpOk.sGet rr 9 88 true (fun _ _ h=>h) _ (fun _=>rfl) fun ev w' v hR E pr=>by
      have e1:=E.was 3 _;simp[go_sem,e1]
    ·exact OpOk.sGet rr 9 88 true (fun _ _ h=>h) _ (fun _=>rfl) fun ev w' v hR E pr=>by
      have e1:=E.eq pr 12 91;have cc:=(h3.next hR).1.cell (j:=2) (by omega);simp[lf]at cc;simp[go_sem,cc,e1]
    ·exact OpOk.sGet rr 9 88 true (fun _ _ h=>h) _ (fun _=>rfl) fun ev w' v hR E pr=>by
      have e1:=E.eq pr 11 90;have e2:=E.eq pr 13 92;simp[go_sem,hgt,e1,e2]
    ·exact OpOk.sGet rr 9 88 true (fun _ _ h=>h) _ (fun _=>rfl) fun ev w' v hR E pr=>by
      have e1:=E.eq pr 14 93;simp[go_sem,e1]
    ·exact OpOk.never 15 94 false (fun _ _ h=>.inl h) (fun _=>rfl)
    ·exact OpOk.never 15 94 false (fun _ _ h=>.inl h) (fun _=>rfl)
    ·exact OpOk.never 15 94 false (fun _ _ h=>.inl h) (fun _=>rfl)
    ·exact OpOk.sGet rr 9 88 true (fun _ _ h=>h) _ (fun _=>rfl) fun ev w' v hR E pr=>by
      have e1:=E.eq pr 15 94;have e2:=E.eq pr 18 97;simp[go_sem,E.con,e1,e2]
    ·exact OpOk.sGet rr 9 88 true (fun _ _ h=>h) _ (fun _=>rfl) fun ev w' v hR E pr=>by
      have e1:=E.eq pr 19 98;simp[go_sem,e1]
    ·exact OpOk.never 20 99 false (fun _ _ h=>.inl h) (fun _=>rfl)
    ·exact OpOk.never 20 99 false (fun _ _ h=>.inl h) (fun _=>rfl)
    ·exact OpOk.never 20 99 false (fun _ _ h=>.inl h) (fun _=>rfl)
    ·exact OpOk.never 20 99 false (fun _ _ h=>.inl h) (fun _=>rfl)
    ·exact OpOk.never 20 99 false (fun _ _ h=>.inl h) (fun _=>rfl)
    ·exact OpOk.sGet rr 9 88 true (fun _ _ h=>h) _ (fun _=>rfl) fun ev w' v hR E pr=>by
      have e1:=E.eq pr 20 99;have e2:=E.eq pr 25 104;simp[go_sem,E.con,e1,e2]
    ·exact zS 9 88 26 105 nt
    ·exact o1 27 106
    ·exact OpOk.sGet rr 28 107 true (fun _ _ h=>h) _ (fun _=>rfl) fun ev w' v hR E pr=>by
      have e1:=E.was 5 _;simp[go_sem,e1]
    ·exact OpOk.sGet rr 28 107 true (fun _ _ h=>h) _ (fun _=>rfl) fun ev w' v hR E pr=>by
      have e1:=E.eq pr 29 108;have cc:=(h5.next hR).1.cell (j:=6) (by omega);simp[lf]at cc;simp[go_sem,cc,e1]
    ·exact OpOk.sGet rr 28 107 true (fun _ _ h=>h) _ (fun _=>rfl) fun ev w' v hR E pr=>by
      have e1:=E.was 3 _;simp[go_sem,e1]
    ·exact OpOk.sGet rr 28 107 true (fun _ _ h=>h) _ (fun _=>rfl) fun ev w' v hR E pr=>by
      have e1:=E.eq pr 31 110;have cc:=(h3.next hR).1.cell (j:=6) (by omega);simp[lf]at cc;simp[go_sem,cc,e1]
    ·exact OpOk.sGet rr 28 107 true (fun _ _ h=>h) _ (fun _=>rfl) fun ev w' v hR E pr=>by
      have e1:=E.eq pr 30 109;have e2:=E.eq pr 32 111;simp[go_sem,hTc,e1,e2]
    ·exact zS 28 107 33 112 nt
    ·exact o1 34 113
   intro v V15 hR hp;obtain⟨-,-,-,-,-,-,-,-,-,-,-,-,-,-,-,-,-,-,-,-,-,-,-,-,-,-,-,-,-,-,-,-,-,-,-,p35,-⟩:=hp;replace p35:v 35=.bool true:=p35;simp only[bF,Nat.zero_add,Nat.reduceAdd,p35,Act.put,sY,sZ,ss];clear p35;go_wp2;go_ret;exact⟨rfl,rt _ _ _ hB hR⟩
  have hng:¬ n.term<X.term:=by omega
  by_cases hv:n.vote = -1
  ·refine hU (by kernel_rfl) RB rr rt
    [isV (aX X ⟨lo5,lc5,vo5,vc5,no5,nc5,mo5,mc5⟩),isV (.bool true),isV (.bool true),isV (.pointer (some ⟨b5,2,none⟩)),isV (.int .i64 X.term),isV (.pointer (some ⟨b3,2,none⟩)),isV (.int .i64 n.term),isV (.bool true),isV (.bool true),isV (.bool true),isV (.pointer (some ⟨b5,2,none⟩)),isV (.int .i64 X.term),isV (.pointer (some ⟨b3,2,none⟩)),isV (.int .i64 n.term),isV (.bool false),isV (.bool false),isV (.pointer (some ⟨b3,3,none⟩)),isV (.int .i64 n.vote),isV (.bool true),isV (.bool true),isV (.bool true),isV undef,isV undef,isV undef,isV undef,isV undef,isV (.bool true),isV (.bool true),isV (.bool true),isV (.pointer (some ⟨b5,6,none⟩)),isV (.int .i64 X.commit),isV (.pointer (some ⟨b3,6,none⟩)),isV (.int .i64 n.commit),isV (.bool true),isV (.bool true),isV (.bool true)]
    ⟨iR,iR,iR,iR,iR,iR,iR,iR,iR,iR,iR,iR,iR,iR,iR,iR,iR,iR,iR,iR,iR,iR,iR,iR,iR,iR,iR,iR,iR,iR,iR,iR,iR,iR,iR,iR,trivial⟩ rfl ?_ ?_
   ·refine⟨?_,?_,?_,?_,?_,?_,?_,?_,?_,?_,?_,?_,?_,?_,?_,?_,?_,?_,?_,?_,?_,?_,?_,?_,?_,?_,?_,?_,?_,?_,?_,?_,?_,?_,?_,?_,trivial⟩
    ·exact oq rfl fun ev w' v hR E pr=>by
      have e1:=E.was 5 _;exact bD rfl e1 (h5.next hR).1
    ·refine OpOk.call rfl fun ev w' v hR E pr=>?_
     have e1:=E.eq pr 0 79;refine⟨12,#[aX X ⟨lo5,lc5,vo5,vc5,no5,nc5,mo5,mc5⟩],by simp[go_sem,e1,E.fn],(jT X ⟨lo5,lc5,vo5,vc5,no5,nc5,mo5,mc5⟩ hzX aL aE aO w' (hG.next (rt _ _ _ hB hR)).g (h5.next hR).2).mono ?_⟩;rintro e9 w9 ⟨rfl,hb9⟩;rw[hBX];exact⟨_,rfl,hb9,rfl⟩
    ·exact o1 1 80
    ·exact OpOk.sGet rr 2 81 true (fun _ _ h=>h) _ (fun _=>rfl) fun ev w' v hR E pr=>by
      have e1:=E.was 5 _;simp[go_sem,e1]
    ·exact OpOk.sGet rr 2 81 true (fun _ _ h=>h) _ (fun _=>rfl) fun ev w' v hR E pr=>by
      have e1:=E.eq pr 3 82;have cc:=(h5.next hR).1.cell (j:=2) (by omega);simp[lf]at cc;simp[go_sem,cc,e1]
    ·exact OpOk.sGet rr 2 81 true (fun _ _ h=>h) _ (fun _=>rfl) fun ev w' v hR E pr=>by
      have e1:=E.was 3 _;simp[go_sem,e1]
    ·exact OpOk.sGet rr 2 81 true (fun _ _ h=>h) _ (fun _=>rfl) fun ev w' v hR E pr=>by
      have e1:=E.eq pr 5 84;have cc:=(h3.next hR).1.cell (j:=2) (by omega);simp[lf]at cc;simp[go_sem,cc,e1]
    ·exact OpOk.sGet rr 2 81 true (fun _ _ h=>h) _ (fun _=>rfl) fun ev w' v hR E pr=>by
      have e1:=E.eq pr 4 83;have e2:=E.eq pr 6 85;simp[go_sem,hTt,e1,e2]
    ·exact zS 2 81 7 86 nt
    ·exact o1 8 87
    ·exact OpOk.sGet rr 9 88 true (fun _ _ h=>h) _ (fun _=>rfl) fun ev w' v hR E pr=>by
      have e1:=E.was 5 _;simp[go_sem,e1]
    ·exact OpOk.sGet rr 9 88 true (fun _ _ h=>h) _ (fun _=>rfl) fun ev w' v hR E pr=>by
      have e1:=E.eq pr 10 89;have cc:=(h5.next hR).1.cell (j:=2) (by omega);simp[lf]at cc;simp[go_sem,cc,e1]
    ·exact OpOk.sGet rr 9 88 true (fun _ _ h=>h) _ (fun _=>rfl) fun ev w' v hR E pr=>by
      have e1:=E.was 3 _;simp[go_sem,e1]
    ·exact OpOk.sGet rr 9 88 true (fun _ _ h=>h) _ (fun _=>rfl) fun ev w' v hR E pr=>by
      have e1:=E.eq pr 12 91;have cc:=(h3.next hR).1.cell (j:=2) (by omega);simp[lf]at cc;simp[go_sem,cc,e1]
    ·exact OpOk.sGet rr 9 88 true (fun _ _ h=>h) _ (fun _=>rfl) fun ev w' v hR E pr=>by
      have e1:=E.eq pr 11 90;have e2:=E.eq pr 13 92;simp[go_sem,hng,e1,e2]
    ·exact OpOk.sGet rr 9 88 true (fun _ _ h=>h) _ (fun _=>rfl) fun ev w' v hR E pr=>by
      have e1:=E.eq pr 14 93;simp[go_sem,e1]
    ·exact OpOk.sGet rr 15 94 false (fun _ _ h=>h) _ (fun _=>rfl) fun ev w' v hR E pr=>by
      have e1:=E.was 3 _;simp[go_sem,e1]
    ·exact OpOk.sGet rr 15 94 false (fun _ _ h=>h) _ (fun _=>rfl) fun ev w' v hR E pr=>by
      have e1:=E.eq pr 16 95;have cc:=(h3.next hR).1.cell (j:=3) (by omega);simp[lf]at cc;simp[go_sem,cc,e1]
    ·exact OpOk.sGet rr 15 94 false (fun _ _ h=>h) _ (fun _=>rfl) fun ev w' v hR E pr=>by
      have e1:=E.eq pr 17 96;simp[go_sem,E.con,hv,e1]
    ·exact OpOk.sGet rr 9 88 true (fun _ _ h=>h) _ (fun _=>rfl) fun ev w' v hR E pr=>by
      have e1:=E.eq pr 15 94;have e2:=E.eq pr 18 97;simp[go_sem,E.con,e1,e2]
    ·exact OpOk.sGet rr 9 88 true (fun _ _ h=>h) _ (fun _=>rfl) fun ev w' v hR E pr=>by
      have e1:=E.eq pr 19 98;simp[go_sem,e1]
    ·exact OpOk.never 20 99 false (fun _ _ h=>.inl h) (fun _=>rfl)
    ·exact OpOk.never 20 99 false (fun _ _ h=>.inl h) (fun _=>rfl)
    ·exact OpOk.never 20 99 false (fun _ _ h=>.inl h) (fun _=>rfl)
    ·exact OpOk.never 20 99 false (fun _ _ h=>.inl h) (fun _=>rfl)
    ·exact OpOk.never 20 99 false (fun _ _ h=>.inl h) (fun _=>rfl)
    ·exact OpOk.sGet rr 9 88 true (fun _ _ h=>h) _ (fun _=>rfl) fun ev w' v hR E pr=>by
      have e1:=E.eq pr 20 99;have e2:=E.eq pr 25 104;simp[go_sem,E.con,e1,e2]
    ·exact zS 9 88 26 105 nt
    ·exact o1 27 106
    ·exact OpOk.sGet rr 28 107 true (fun _ _ h=>h) _ (fun _=>rfl) fun ev w' v hR E pr=>by
      have e1:=E.was 5 _;simp[go_sem,e1]
    ·exact OpOk.sGet rr 28 107 true (fun _ _ h=>h) _ (fun _=>rfl) fun ev w' v hR E pr=>by
      have e1:=E.eq pr 29 108;have cc:=(h5.next hR).1.cell (j:=6) (by omega);simp[lf]at cc;simp[go_sem,cc,e1]
    ·exact OpOk.sGet rr 28 107 true (fun _ _ h=>h) _ (fun _=>rfl) fun ev w' v hR E pr=>by
      have e1:=E.was 3 _;simp[go_sem,e1]
    ·exact OpOk.sGet rr 28 107 true (fun _ _ h=>h) _ (fun _=>rfl) fun ev w' v hR E pr=>by
      have e1:=E.eq pr 31 110;have cc:=(h3.next hR).1.cell (j:=6) (by omega);simp[lf]at cc;simp[go_sem,cc,e1]
    ·exact OpOk.sGet rr 28 107 true (fun _ _ h=>h) _ (fun _=>rfl) fun ev w' v hR E pr=>by
      have e1:=E.eq pr 30 109;have e2:=E.eq pr 32 111;simp[go_sem,hTc,e1,e2]
    ·exact zS 28 107 33 112 nt
    ·exact o1 34 113
   intro v V15 hR hp;obtain⟨-,-,-,-,-,-,-,-,-,-,-,-,-,-,-,-,-,-,-,-,-,-,-,-,-,-,-,-,-,-,-,-,-,-,-,p35,-⟩:=hp;replace p35:v 35=.bool true:=p35;simp only[bF,Nat.zero_add,Nat.reduceAdd,p35,Act.put,sY,sZ,ss];clear p35;go_wp2;go_ret;exact⟨rfl,rt _ _ _ hB hR⟩
  have hxv:X.vote=n.vote:=(hT.v hgt.symm).resolve_left hv
  refine hU (by kernel_rfl) RB rr rt
   [isV (aX X ⟨lo5,lc5,vo5,vc5,no5,nc5,mo5,mc5⟩),isV (.bool true),isV (.bool true),isV (.pointer (some ⟨b5,2,none⟩)),isV (.int .i64 X.term),isV (.pointer (some ⟨b3,2,none⟩)),isV (.int .i64 n.term),isV (.bool true),isV (.bool true),isV (.bool true),isV (.pointer (some ⟨b5,2,none⟩)),isV (.int .i64 X.term),isV (.pointer (some ⟨b3,2,none⟩)),isV (.int .i64 n.term),isV (.bool false),isV (.bool false),isV (.pointer (some ⟨b3,3,none⟩)),isV (.int .i64 n.vote),isV (.bool false),isV (.bool false),isV (.bool false),isV (.pointer (some ⟨b5,3,none⟩)),isV (.int .i64 X.vote),isV (.pointer (some ⟨b3,3,none⟩)),isV (.int .i64 n.vote),isV (.bool true),isV (.bool true),isV (.bool true),isV (.bool true),isV (.pointer (some ⟨b5,6,none⟩)),isV (.int .i64 X.commit),isV (.pointer (some ⟨b3,6,none⟩)),isV (.int .i64 n.commit),isV (.bool true),isV (.bool true),isV (.bool true)]
   ⟨iR,iR,iR,iR,iR,iR,iR,iR,iR,iR,iR,iR,iR,iR,iR,iR,iR,iR,iR,iR,iR,iR,iR,iR,iR,iR,iR,iR,iR,iR,iR,iR,iR,iR,iR,iR,trivial⟩ rfl ?_ ?_
  ·refine⟨?_,?_,?_,?_,?_,?_,?_,?_,?_,?_,?_,?_,?_,?_,?_,?_,?_,?_,?_,?_,?_,?_,?_,?_,?_,?_,?_,?_,?_,?_,?_,?_,?_,?_,?_,?_,trivial⟩
   ·exact oq rfl fun ev w' v hR E pr=>by
     have e1:=E.was 5 _;exact bD rfl e1 (h5.next hR).1
   ·refine OpOk.call rfl fun ev w' v hR E pr=>?_
    have e1:=E.eq pr 0 79;refine⟨12,#[aX X ⟨lo5,lc5,vo5,vc5,no5,nc5,mo5,mc5⟩],by simp[go_sem,e1,E.fn],(jT X ⟨lo5,lc5,vo5,vc5,no5,nc5,mo5,mc5⟩ hzX aL aE aO w' (hG.next (rt _ _ _ hB hR)).g (h5.next hR).2).mono ?_⟩;rintro e9 w9 ⟨rfl,hb9⟩;rw[hBX];exact⟨_,rfl,hb9,rfl⟩
   ·exact o1 1 80
   ·exact OpOk.sGet rr 2 81 true (fun _ _ h=>h) _ (fun _=>rfl) fun ev w' v hR E pr=>by
     have e1:=E.was 5 _;simp[go_sem,e1]
   ·exact OpOk.sGet rr 2 81 true (fun _ _ h=>h) _ (fun _=>rfl) fun ev w' v hR E pr=>by
     have e1:=E.eq pr 3 82;have cc:=(h5.next hR).1.cell (j:=2) (by omega);simp[lf]at cc;simp[go_sem,cc,e1]
   ·exact OpOk.sGet rr 2 81 true (fun _ _ h=>h) _ (fun _=>rfl) fun ev w' v hR E pr=>by
     have e1:=E.was 3 _;simp[go_sem,e1]
   ·exact OpOk.sGet rr 2 81 true (fun _ _ h=>h) _ (fun _=>rfl) fun ev w' v hR E pr=>by
     have e1:=E.eq pr 5 84;have cc:=(h3.next hR).1.cell (j:=2) (by omega);simp[lf]at cc;simp[go_sem,cc,e1]
   ·exact OpOk.sGet rr 2 81 true (fun _ _ h=>h) _ (fun _=>rfl) fun ev w' v hR E pr=>by
     have e1:=E.eq pr 4 83;have e2:=E.eq pr 6 85;simp[go_sem,hTt,e1,e2]
   ·exact zS 2 81 7 86 nt
   ·exact o1 8 87
   ·exact OpOk.sGet rr 9 88 true (fun _ _ h=>h) _ (fun _=>rfl) fun ev w' v hR E pr=>by
     have e1:=E.was 5 _;simp[go_sem,e1]
   ·exact OpOk.sGet rr 9 88 true (fun _ _ h=>h) _ (fun _=>rfl) fun ev w' v hR E pr=>by
     have e1:=E.eq pr 10 89;have cc:=(h5.next hR).1.cell (j:=2) (by omega);simp[lf]at cc;simp[go_sem,cc,e1]
   ·exact OpOk.sGet rr 9 88 true (fun _ _ h=>h) _ (fun _=>rfl) fun ev w' v hR E pr=>by
     have e1:=E.was 3 _;simp[go_sem,e1]
   ·exact OpOk.sGet rr 9 88 true (fun _ _ h=>h) _ (fun _=>rfl) fun ev w' v hR E pr=>by
     have e1:=E.eq pr 12 91;have cc:=(h3.next hR).1.cell (j:=2) (by omega);simp[lf]at cc;simp[go_sem,cc,e1]
   ·exact OpOk.sGet rr 9 88 true (fun _ _ h=>h) _ (fun _=>rfl) fun ev w' v hR E pr=>by
     have e1:=E.eq pr 11 90;have e2:=E.eq pr 13 92;simp[go_sem,hng,e1,e2]
   ·exact OpOk.sGet rr 9 88 true (fun _ _ h=>h) _ (fun _=>rfl) fun ev w' v hR E pr=>by
     have e1:=E.eq pr 14 93;simp[go_sem,e1]
   ·exact OpOk.sGet rr 15 94 false (fun _ _ h=>h) _ (fun _=>rfl) fun ev w' v hR E pr=>by
     have e1:=E.was 3 _;simp[go_sem,e1]
   ·exact OpOk.sGet rr 15 94 false (fun _ _ h=>h) _ (fun _=>rfl) fun ev w' v hR E pr=>by
     have e1:=E.eq pr 16 95;have cc:=(h3.next hR).1.cell (j:=3) (by omega);simp[lf]at cc;simp[go_sem,cc,e1]
   ·exact OpOk.sGet rr 15 94 false (fun _ _ h=>h) _ (fun _=>rfl) fun ev w' v hR E pr=>by
     have e1:=E.eq pr 17 96;simp[go_sem,E.con,hv,e1]
   ·exact OpOk.sGet rr 9 88 true (fun _ _ h=>h) _ (fun _=>rfl) fun ev w' v hR E pr=>by
     have e1:=E.eq pr 15 94;have e2:=E.eq pr 18 97;simp[go_sem,E.con,e1,e2]
   ·exact OpOk.sGet rr 9 88 true (fun _ _ h=>h) _ (fun _=>rfl) fun ev w' v hR E pr=>by
     have e1:=E.eq pr 19 98;simp[go_sem,e1]
   ·exact OpOk.sGet rr 20 99 false (fun _ _ h=>h) _ (fun _=>rfl) fun ev w' v hR E pr=>by
     have e1:=E.was 5 _;simp[go_sem,e1]
   ·exact OpOk.sGet rr 20 99 false (fun _ _ h=>h) _ (fun _=>rfl) fun ev w' v hR E pr=>by
     have e1:=E.eq pr 21 100;have cc:=(h5.next hR).1.cell (j:=3) (by omega);simp[lf]at cc;simp[go_sem,cc,e1]
   ·exact OpOk.sGet rr 20 99 false (fun _ _ h=>h) _ (fun _=>rfl) fun ev w' v hR E pr=>by
     have e1:=E.was 3 _;simp[go_sem,e1]
   ·exact OpOk.sGet rr 20 99 false (fun _ _ h=>h) _ (fun _=>rfl) fun ev w' v hR E pr=>by
     have e1:=E.eq pr 23 102;have cc:=(h3.next hR).1.cell (j:=3) (by omega);simp[lf]at cc;simp[go_sem,cc,e1]
   ·exact OpOk.sGet rr 20 99 false (fun _ _ h=>h) _ (fun _=>rfl) fun ev w' v hR E pr=>by
     have e1:=E.eq pr 22 101;have e2:=E.eq pr 24 103;simp[go_sem,hxv,e1,e2]
   ·exact OpOk.sGet rr 9 88 true (fun _ _ h=>h) _ (fun _=>rfl) fun ev w' v hR E pr=>by
     have e1:=E.eq pr 20 99;have e2:=E.eq pr 25 104;simp[go_sem,E.con,e1,e2]
   ·exact zS 9 88 26 105 nt
   ·exact o1 27 106
   ·exact OpOk.sGet rr 28 107 true (fun _ _ h=>h) _ (fun _=>rfl) fun ev w' v hR E pr=>by
     have e1:=E.was 5 _;simp[go_sem,e1]
   ·exact OpOk.sGet rr 28 107 true (fun _ _ h=>h) _ (fun _=>rfl) fun ev w' v hR E pr=>by
     have e1:=E.eq pr 29 108;have cc:=(h5.next hR).1.cell (j:=6) (by omega);simp[lf]at cc;simp[go_sem,cc,e1]
   ·exact OpOk.sGet rr 28 107 true (fun _ _ h=>h) _ (fun _=>rfl) fun ev w' v hR E pr=>by
     have e1:=E.was 3 _;simp[go_sem,e1]
   ·exact OpOk.sGet rr 28 107 true (fun _ _ h=>h) _ (fun _=>rfl) fun ev w' v hR E pr=>by
     have e1:=E.eq pr 31 110;have cc:=(h3.next hR).1.cell (j:=6) (by omega);simp[lf]at cc;simp[go_sem,cc,e1]
   ·exact OpOk.sGet rr 28 107 true (fun _ _ h=>h) _ (fun _=>rfl) fun ev w' v hR E pr=>by
     have e1:=E.eq pr 30 109;have e2:=E.eq pr 32 111;simp[go_sem,hTc,e1,e2]
   ·exact zS 28 107 33 112 nt
   ·exact o1 34 113
  intro v V15 hR hp;obtain⟨-,-,-,-,-,-,-,-,-,-,-,-,-,-,-,-,-,-,-,-,-,-,-,-,-,-,-,-,-,-,-,-,-,-,-,p35,-⟩:=hp;replace p35:v 35=.bool true:=p35;simp only[bF,Nat.zero_add,Nat.reduceAdd,p35,Act.put,sY,sZ,ss];clear p35;go_wp2;go_ret;exact⟨rfl,rt _ _ _ hB hR⟩
end
end Go.Proofs.YtbabakgjkloabaaGreatDoor
