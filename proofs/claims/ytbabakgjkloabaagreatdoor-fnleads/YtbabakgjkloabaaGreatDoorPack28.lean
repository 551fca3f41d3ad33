/-
  Helpers: LawLeads.
-/
import Derived.Test.YtbabakgjkloabaaGreatDoorPack2
import Derived.Test.YtbabakgjkloabaaGreatDoorPack8
import Derived.Test.YtbabakgjkloabaaGreatDoorPack1
import Derived.Test.YtbabakgjkloabaaGreatDoorPack17
import Derived.Test.YtbabakgjkloabaaGreatDoorPack27
import Derived.Test.YtbabakgjkloabaaGreatDoorPack11
import Derived.Test.YtbabakgjkloabaaGreatDoorPack15
set_option linter.unusedVariables false
set_option linter.unusedSimpArgs false
namespace Go.Proofs.YtbabakgjkloabaaGreatDoor
section
open Go.ChangeShapes Go.WideShapes Go.ChangeAt Go Go.RowKit Go.Deep Go.Joins
attribute [local go_sem ↓] Go.wp_at_zero Go.wp_at_succ
theorem ByRow.rb {w W:World} {ao:Option Addr} {k:Nat} (hr:ByRow w w.heap.size ao k) (hb:RB w W):ByRow W W.heap.size ao k:=by
 intro j hj;obtain⟨b,o,v,e,hb1,hc,hv⟩:=hr j hj;have:=hb.size;exact⟨b,o,v,e,by omega,keep_cell hb nl hc,hv⟩
def RstV (n:Nd) (v:Value) (W:World):Prop:=∃ s,v=ndV n s/\NdM W n s
theorem RstV.rb {n:Nd} (v:Value) (w w':World) (h:RstV n v w) (hb:RB w w'):RstV n v w':=h.imp fun s h=>⟨h.1,h.2.next hb⟩
theorem prRow {n n':Nd} {t:ByteArray} {W:World} {ao:Option Addr} (h:NRow W ao n'.log.length (tOf n'.log) (xOf n'.log)) (e:n'.log=n.log++[⟨n.term,t⟩]):NRow W ao n.log.length (tOf n.log) (xOf n.log):=by
 rw[e]at h;exact (h.less (by simp)).congr (fun k hk=>by rw[tOf_app,if_pos hk]) (fun k hk=>by rw[xOf_app _ _ _ (by omega),if_pos hk])
set_option maxRecDepth 100000 in
set_option maxHeartbeats 16000000 in
theorem lawLeads_walk (ao:Option Addr) (k cap:Nat) (hn:k<=maxLen) (w:World) (hr:ByRow w w.heap.size ao k) (aL aE aO:Addr) (hG:GlV w aL aE aO):Calls Tryz.prog 4 #[.slice ao k cap] w fun e w'=>e=.returned (.bool true)/\Below w.heap.size w w':=by
 have hB:RB w w:=RB.refl w;go_enter Tryz.func4,Tryz.ntmps4;refine wp_seq_h' fun K0 hK0=>?_
 go_wp2;refine hK0.out _ _ ?_;clear hK0;refine wp_seq_h' fun K0 hK0=>?_
 go_wp2_with fail
 refine (big_any ao k cap (by unfold maxLen at hn;omega) _).mono ?_;rintro e w1 ⟨rfl,he⟩;subst he
 by_cases hbig:4096<k
 ·have hd:decide (4096<k)=true:=by simp[hbig]
  go_wp2;go_ret;exact⟨rfl,hB⟩
 have hd:decide (4096<k)=false:=by simp[hbig]
 have hk:k<=4096:=by omega
 clear hbig hn;go_wp2;refine hK0.out _ _ ?_;clear hK0 hd;refine wp_seq_h' fun K0 hK0=>?_
 go_wp2_with fail
 refine (DrawTimeout_any ao k cap hk _ hr).mono ?_;rintro e wn ⟨n,s,rfl,hO,hz,hgd,hb2⟩;obtain⟨lo3,lc3,vo3,vc3,no3,nc3,mo3,mc3⟩:=s;have M3:=hO.M;clear hO;replace hB:=RB.trans _ _ _ hB hb2;clear hb2;have hal:=RB.alloc wn (.cells (ndL nd0 ns0).toArray 27);have vZ:=ndB_new wn nd0 ns0
 go_wp2_with (first|((with_reducible refine wB 27 (.tmp 3) (.tmp 18) (wn.heap.size) (ndL (n) (⟨lo3,lc3,vo3,vc3,no3,nc3,mo3,mc3⟩)) vZ ?_);intro W vW hg)|fail)
 have hgb:=gr_rb hal hg nl;replace hB:=RB.trans _ _ _ hB hgb;replace M3:=NdM.next M3 hgb;clear hgb;have h3:BxLw W wn.heap.size (n) ⟨lo3,lc3,vo3,vc3,no3,nc3,mo3,mc3⟩:=⟨vW,M3⟩
 clear vW M3 hal vZ hg;generalize wn.heap.size=b3 at h3 ⊢;refine hK0.out _ _ ?_;clear hK0;refine wp_seq_h' fun K0 hK0=>?_
 obtain⟨f0,f1,f2,f3,f4,f5,f6,f7,f8,f9⟩:=cN h3.1
 go_wp2_with fail
 refine (timeout_any n ⟨lo3,lc3,vo3,vc3,no3,nc3,mo3,mc3⟩ hz aL aE aO _ (hG.next hB) h3.2).mono ?_;rintro e wn ⟨sA,va,rfl,M4,kA,NA,hb2⟩;clear f0 f1 f2 f3 f4 f5 f6 f7 f8 f9;obtain⟨lo4,lc4,vo4,vc4,no4,nc4,mo4,mc4⟩:=sA;replace hB:=RB.trans _ _ _ hB hb2;replace h3:=BxLw.next h3 hb2;clear hb2;have hal:=RB.alloc wn (.cells (ndL nd0 ns0).toArray 27);have vZ:=ndB_new wn nd0 ns0
 go_wp2_with (first|((with_reducible refine wB 27 (.tmp 4) (.tmp 22) (wn.heap.size) (ndL (tmN n) (⟨lo4,lc4,vo4,vc4,no4,nc4,mo4,mc4⟩)) vZ ?_);intro W vW hg)|fail)
 have hgb:=gr_rb hal hg nl;replace hB:=RB.trans _ _ _ hB hgb;replace h3:=BxLw.next h3 hgb;replace M4:=NdM.next M4 hgb;replace NA:=NetV.rb _ _ _ NA hgb;clear hgb;have h4:BxLw W wn.heap.size (tmN n) ⟨lo4,lc4,vo4,vc4,no4,nc4,mo4,mc4⟩:=⟨vW,M4⟩
 clear vW M4 hal vZ hg;generalize wn.heap.size=b4 at h4 ⊢;refine hK0.out _ _ ?_;clear hK0;have hq:=hgd.eqs;have fT:=hgd.tmN;have fL:=hgd.tmL;have fB:=hgd.beat;refine wp_seq_h' fun K1 hK1=>?_
 refine wp_seq_h' fun K0 hK0=>?_
 obtain⟨f0,f1,f2,f3,f4,f5,f6,f7,f8,f9⟩:=cN h3.1
 go_wp2_with fail
 refine (specTimeout_any n ⟨lo3,lc3,vo3,vc3,no3,nc3,mo3,mc3⟩ hz _ h3.2).mono ?_;rintro e wn ⟨sB,vb,he,OB,NB,hb2⟩;clear f0 f1 f2 f3 f4 f5 f6 f7 f8 f9;rw[hq.1]at he OB;rw[hq.2.1]at NB;subst he;obtain⟨lo6,lc6,vo6,vc6,no6,nc6,mo6,mc6⟩:=sB;have M6:=OB.M;clear OB;replace hB:=RB.trans _ _ _ hB hb2;replace h3:=BxLw.next h3 hb2;replace NA:=NetV.rb _ _ _ NA hb2;replace h4:=BxLw.next h4 hb2;clear hb2;have hal:=RB.alloc wn (.cells (ndL nd0 ns0).toArray 27);have vZ:=ndB_new wn nd0 ns0
 go_wp2_with (first|((with_reducible refine wB 27 (.tmp 6) (.tmp 27) (wn.heap.size) (ndL (tmN n) (⟨lo6,lc6,vo6,vc6,no6,nc6,mo6,mc6⟩)) vZ ?_);intro W vW hg)|fail)
 have hgb:=gr_rb hal hg nl;replace hB:=RB.trans _ _ _ hB hgb;replace h3:=BxLw.next h3 hgb;replace NA:=NetV.rb _ _ _ NA hgb;replace h4:=BxLw.next h4 hgb;replace M6:=NdM.next M6 hgb;replace NB:=NetV.rb _ _ _ NB hgb;clear hgb;have h6:BxLw W wn.heap.size (tmN n) ⟨lo6,lc6,vo6,vc6,no6,nc6,mo6,mc6⟩:=⟨vW,M6⟩
 clear vW M6 hal vZ hg;generalize wn.heap.size=b6 at h6 ⊢;refine hK0.out _ _ ?_;clear hK0;refine wp_seq_h' fun K0 hK0=>?_
 refine region_all (by kernel_rfl) (by kernel_rfl) RB RB.refl RB.trans
  [isV (ndV (tmN n) ⟨lo4,lc4,vo4,vc4,no4,nc4,mo4,mc4⟩),isV (ndV (tmN n) ⟨lo6,lc6,vo6,vc6,no6,nc6,mo6,mc6⟩),isV (.bool true),isV (.bool false),isV (.bool false),isV (va),isV (vb),isV (.bool true),isV (.bool false),isV (.bool false),isV (.bool false),isV (ndV n ⟨lo3,lc3,vo3,vc3,no3,nc3,mo3,mc3⟩),NetV 0 (beatB n),isV (ndV n ⟨lo3,lc3,vo3,vc3,no3,nc3,mo3,mc3⟩),NetV 0 (beatB n),isV (.bool true),isV (.bool false),isV (.bool false)]
  ⟨isV.rb,isV.rb,isV.rb,isV.rb,isV.rb,isV.rb,isV.rb,isV.rb,isV.rb,isV.rb,isV.rb,isV.rb,NetV.rb,isV.rb,NetV.rb,isV.rb,isV.rb,isV.rb,trivial⟩ rfl ?_ ?_
 ·refine⟨?_,?_,?_,?_,?_,?_,?_,?_,?_,?_,?_,?_,?_,?_,?_,?_,?_,?_,trivial⟩
  ·exact oq rfl fun ev w' v hR E pr=>by
    replace hR:=RB.dr hR;have e1:=E.was 4 _;exact exec_nd rfl e1 (h4.next hR).1
  ·exact oq rfl fun ev w' v hR E pr=>by
    replace hR:=RB.dr hR;have e1:=E.was 6 _;exact exec_nd rfl e1 (h6.next hR).1
  ·refine OpOk.call rfl fun ev w' v hR E pr=>?_
   replace hR:=RB.dr hR;have e1:=E.eq pr 0 29;have e2:=E.eq pr 1 30;refine⟨9,#[ndV (tmN n) ⟨lo4,lc4,vo4,vc4,no4,nc4,mo4,mc4⟩,ndV (tmN n) ⟨lo6,lc6,vo6,vc6,no6,nc6,mo6,mc6⟩],by simp[go_sem,e1,e2,E.fn],(likeNode_same (tmN n) ⟨lo4,lc4,vo4,vc4,no4,nc4,mo4,mc4⟩ ⟨lo6,lc6,vo6,vc6,no6,nc6,mo6,mc6⟩ fT.1 fT.2.1 fT.2.2.1 fT.2.2.2 w' (h4.next hR).2 (h6.next hR).2).mono ?_⟩;rintro e9 w9 ⟨rfl,hb9⟩;exact⟨_,rfl,hb9,rfl⟩
  ·exact oq rfl fun ev w' v hR E pr=>by
    replace hR:=RB.dr hR;have e1:=E.eq pr 2 31;simp[go_sem,e1]
  ·exact oq rfl fun ev w' v hR E pr=>by
    replace hR:=RB.dr hR;have e1:=E.eq pr 3 32;simp[go_sem,e1]
  ·exact OpOk.sGet RB.refl 4 33 false (fun _ _ h=>h) _ (fun _=>rfl) fun ev w' v hR E pr=>by
    replace hR:=RB.dr hR;have e1:=E.was 5 _;simp[go_sem,e1]
  ·exact OpOk.sGet RB.refl 4 33 false (fun _ _ h=>h) _ (fun _=>rfl) fun ev w' v hR E pr=>by
    replace hR:=RB.dr hR;have e1:=E.was 7 _;simp[go_sem,e1]
  ·refine OpOk.sCall 4 33 false (fun _ _ h=>h) fun ev w' v hR E pr=>?_
   replace hR:=RB.dr hR;have e1:=E.eq pr 5 34;have e2:=E.eq pr 6 35;refine⟨10,#[va,vb],by simp[go_sem,e1,e2,E.fn],(likeNet_same (tmL n) va vb _ _ fL.1 fL.2 w' (NetV.rb _ _ _ NA hR) (NetV.rb _ _ _ NB hR)).mono ?_⟩;rintro e9 w9 ⟨rfl,hb9⟩;exact⟨_,rfl,hb9,rfl⟩
  ·exact OpOk.sGet RB.refl 4 33 false (fun _ _ h=>h) _ (fun _=>rfl) fun ev w' v hR E pr=>by
    replace hR:=RB.dr hR;have e1:=E.eq pr 7 36;simp[go_sem,e1]
  ·exact oq rfl fun ev w' v hR E pr=>by
    replace hR:=RB.dr hR;have e1:=E.eq pr 4 33;have e2:=E.eq pr 8 37;simp[go_sem,E.con,e1,e2]
  ·exact oq rfl fun ev w' v hR E pr=>by
    replace hR:=RB.dr hR;have e1:=E.eq pr 9 38;simp[go_sem,e1]
  ·exact OpOk.sGet RB.refl 10 39 false (fun _ _ h=>h) _ (fun _=>rfl) fun ev w' v hR E pr=>by
    replace hR:=RB.dr hR;have e1:=E.was 3 _;exact exec_nd rfl e1 (h3.next hR).1
  ·refine OpOk.sCall 10 39 false (fun _ _ h=>h) fun ev w' v hR E pr=>?_
   replace hR:=RB.dr hR;have e1:=E.eq pr 11 40;refine⟨16,#[ndV n ⟨lo3,lc3,vo3,vc3,no3,nc3,mo3,mc3⟩],by simp[go_sem,e1,E.fn],(beat_any n ⟨lo3,lc3,vo3,vc3,no3,nc3,mo3,mc3⟩ hz aL aE aO w' (hG.next (RB.trans _ _ _ hB hR)) (h3.next hR).2).mono ?_⟩;rintro e9 w9 ⟨v9,rfl,N9,hb9⟩;exact⟨_,rfl,hb9,N9.from (Nat.zero_le _)⟩
  ·exact OpOk.sGet RB.refl 10 39 false (fun _ _ h=>h) _ (fun _=>rfl) fun ev w' v hR E pr=>by
    replace hR:=RB.dr hR;have e1:=E.was 3 _;exact exec_nd rfl e1 (h3.next hR).1
  ·refine OpOk.sCall 10 39 false (fun _ _ h=>h) fun ev w' v hR E pr=>?_
   replace hR:=RB.dr hR;have e1:=E.eq pr 13 42;refine⟨17,#[ndV n ⟨lo3,lc3,vo3,vc3,no3,nc3,mo3,mc3⟩],by simp[go_sem,e1,E.fn],(specBeat_any n ⟨lo3,lc3,vo3,vc3,no3,nc3,mo3,mc3⟩ hz w' (h3.next hR).2).mono ?_⟩;rintro e9 w9 ⟨v9,rfl,N9,hb9⟩;rw[hq.2.2.1]at N9;exact⟨_,rfl,hb9,N9.from (Nat.zero_le _)⟩
  ·refine OpOk.sCall 10 39 false (fun _ _ h=>h) fun ev w' v hR E pr=>?_
   replace hR:=RB.dr hR;have N1:NetV 0 (beatB n) (ev (.tmp 41)) w':=E.get pr 12 41;have N2:NetV 0 (beatB n) (ev (.tmp 43)) w':=E.get pr 14 43;refine⟨10,#[ev (.tmp 41),ev (.tmp 43)],by simp[go_sem,E.fn],(likeNet_same (beatB n) _ _ 0 0 fB.1 fB.2 w' N1 N2).mono ?_⟩;rintro e9 w9 ⟨rfl,hb9⟩;exact⟨_,rfl,hb9,rfl⟩
  ·exact OpOk.sGet RB.refl 10 39 false (fun _ _ h=>h) _ (fun _=>rfl) fun ev w' v hR E pr=>by
    replace hR:=RB.dr hR;have e1:=E.eq pr 15 44;simp[go_sem,e1]
  ·exact oq rfl fun ev w' v hR E pr=>by
    replace hR:=RB.dr hR;have e1:=E.eq pr 10 39;have e2:=E.eq pr 16 45;simp[go_sem,E.con,e1,e2]
 intro v V6 hR hp;replace hR:=RB.dr hR;obtain⟨-,-,-,-,-,-,-,-,-,-,-,-,-,-,-,-,-,p17,-⟩:=hp;replace p17:v 17=.bool false:=p17;simp only[putL,Nat.zero_add,Nat.reduceAdd,p17,Act.put,List.setIfInBounds_toArray,List.set_cons_zero,List.set_cons_succ];clear p17;clear NB h6;replace hB:=RB.trans _ _ _ hB hR;replace h3:=BxLw.next h3 hR;replace NA:=NetV.rb _ _ _ NA hR;replace h4:=BxLw.next h4 hR;clear hR;refine hK0.out _ _ ?_;clear hK0;go_wp2;refine hK1.out _ _ ?_;clear hK1;refine wp_seq_h' fun K0 hK0=>?_
 obtain⟨f0,f1,f2,f3,f4,f5,f6,f7,f8,f9⟩:=cN h3.1
 go_wp2_with fail
 refine (restart_any n ⟨lo3,lc3,vo3,vc3,no3,nc3,mo3,mc3⟩ hz aL aE aO _ (hG.next hB) h3.2).mono ?_;rintro e wn ⟨sR,rfl,OR,hb2⟩;clear f0 f1 f2 f3 f4 f5 f6 f7 f8 f9;obtain⟨lo8,lc8,vo8,vc8,no8,nc8,mo8,mc8⟩:=sR;have M8:=OR.M;have c8:(rstN n).log.length<=lc8/\(rstN n).votes.length<=vc8/\(rstN n).next.length<=nc8/\(rstN n).mat.length<=mc8:=⟨GOwn.cap OR.l,GOwn.cap OR.v,GOwn.cap OR.x,GOwn.cap OR.m⟩
 clear OR;replace hB:=RB.trans _ _ _ hB hb2;replace h3:=BxLw.next h3 hb2;replace NA:=NetV.rb _ _ _ NA hb2;replace h4:=BxLw.next h4 hb2;clear hb2;have hal:=RB.alloc wn (.cells (ndL nd0 ns0).toArray 27);have vZ:=ndB_new wn nd0 ns0
 go_wp2_with (first|((with_reducible refine wB 27 (.tmp 8) (.tmp 48) (wn.heap.size) (ndL (rstN n) (⟨lo8,lc8,vo8,vc8,no8,nc8,mo8,mc8⟩)) vZ ?_);intro W vW hg)|fail)
 have hgb:=gr_rb hal hg nl;replace hB:=RB.trans _ _ _ hB hgb;replace h3:=BxLw.next h3 hgb;replace NA:=NetV.rb _ _ _ NA hgb;replace h4:=BxLw.next h4 hgb;replace M8:=NdM.next M8 hgb;clear hgb;have h8:BxLw W wn.heap.size (rstN n) ⟨lo8,lc8,vo8,vc8,no8,nc8,mo8,mc8⟩:=⟨vW,M8⟩
 clear vW M8 hal vZ hg;generalize wn.heap.size=b8 at h8 ⊢;refine hK0.out _ _ ?_;clear hK0;have fR:=hgd.rst;refine wp_seq_h' fun K1 hK1=>?_
 refine wp_seq_h' fun K0 hK0=>?_
 refine region_all (by kernel_rfl) (by kernel_rfl) RB RB.refl RB.trans
  [isV (ndV (rstN n) ⟨lo8,lc8,vo8,vc8,no8,nc8,mo8,mc8⟩),isV (ndV n ⟨lo3,lc3,vo3,vc3,no3,nc3,mo3,mc3⟩),RstV (rstN n),isV (.bool true),isV (.bool false)]
  ⟨isV.rb,isV.rb,RstV.rb,isV.rb,isV.rb,trivial⟩ rfl ?_ ?_
 ·refine⟨?_,?_,?_,?_,?_,trivial⟩
  ·exact oq rfl fun ev w' v hR E pr=>by
    replace hR:=RB.dr hR;have e1:=E.was 8 _;exact exec_nd rfl e1 (h8.next hR).1
  ·exact oq rfl fun ev w' v hR E pr=>by
    replace hR:=RB.dr hR;have e1:=E.was 3 _;exact exec_nd rfl e1 (h3.next hR).1
  ·refine OpOk.call rfl fun ev w' v hR E pr=>?_
   replace hR:=RB.dr hR;have e1:=E.eq pr 1 50;refine⟨19,#[ndV n ⟨lo3,lc3,vo3,vc3,no3,nc3,mo3,mc3⟩],by simp[go_sem,e1,E.fn],(specRestart_any n ⟨lo3,lc3,vo3,vc3,no3,nc3,mo3,mc3⟩ hz w' (h3.next hR).2).mono ?_⟩;rintro e9 w9 ⟨s9,e8,O9,hb9⟩;rw[hq.2.2.2]at e8 O9;exact⟨_,e8,hb9,s9,rfl,O9.M⟩
  ·refine OpOk.call rfl fun ev w' v hR E pr=>?_
   replace hR:=RB.dr hR;have e1:=E.eq pr 0 49;obtain⟨s9,e7,M7⟩:RstV (rstN n) (ev (.tmp 51)) w':=E.get pr 2 51;refine⟨9,#[ndV (rstN n) ⟨lo8,lc8,vo8,vc8,no8,nc8,mo8,mc8⟩,ndV (rstN n) s9],by simp[go_sem,e1,e7,E.fn],(likeNode_same (rstN n) ⟨lo8,lc8,vo8,vc8,no8,nc8,mo8,mc8⟩ s9 fR.1 fR.2.1 fR.2.2.1 fR.2.2.2 w' (h8.next hR).2 M7).mono ?_⟩;rintro e9 w9 ⟨rfl,hb9⟩;exact⟨_,rfl,hb9,rfl⟩
  ·exact oq rfl fun ev w' v hR E pr=>by
    replace hR:=RB.dr hR;have e1:=E.eq pr 3 52;simp[go_sem,e1]
 intro v V9 hR hp;replace hR:=RB.dr hR;obtain⟨-,-,-,-,p4,-⟩:=hp;replace p4:v 4=.bool false:=p4;simp only[putL,Nat.zero_add,Nat.reduceAdd,p4,Act.put,List.setIfInBounds_toArray,List.set_cons_zero,List.set_cons_succ];clear p4;replace hB:=RB.trans _ _ _ hB hR;replace h3:=BxLw.next h3 hR;replace NA:=NetV.rb _ _ _ NA hR;replace h4:=BxLw.next h4 hR;replace h8:=BxLw.next h8 hR;clear hR;refine hK0.out _ _ ?_;clear hK0;go_wp2;refine hK1.out _ _ ?_;clear hK1;refine wp_seq_h' fun K0 hK0=>?_
 go_wp2_with fail
 refine (DrawPropose_any ao k cap hk _ (hr.rb hB)).mono ?_;rintro e wn ⟨n9,s9,t,rfl,M9,hz9,hgd9,htt,hb2⟩;obtain⟨lo9,lc9,vo9,vc9,no9,nc9,mo9,mc9⟩:=s9;replace hB:=RB.trans _ _ _ hB hb2;replace h3:=BxLw.next h3 hb2;replace NA:=NetV.rb _ _ _ NA hb2;replace h4:=BxLw.next h4 hb2;replace h8:=BxLw.next h8 hb2;clear hb2;have hal:=RB.alloc wn (.cells (ndL nd0 ns0).toArray 27);have vZ:=ndB_new wn nd0 ns0
 go_wp2_with (first|((with_reducible refine wB 27 (.tmp 9) (.tmp 57) (wn.heap.size) (ndL (n9) (⟨lo9,lc9,vo9,vc9,no9,nc9,mo9,mc9⟩)) vZ ?_);intro W vW hg)|fail)
 have hgb:=gr_rb hal hg nl;replace hB:=RB.trans _ _ _ hB hgb;replace h3:=BxLw.next h3 hgb;replace NA:=NetV.rb _ _ _ NA hgb;replace h4:=BxLw.next h4 hgb;replace h8:=BxLw.next h8 hgb;replace M9:=NdM.next M9 hgb;clear hgb;have h9:BxLw W wn.heap.size (n9) ⟨lo9,lc9,vo9,vc9,no9,nc9,mo9,mc9⟩:=⟨vW,M9⟩
 clear vW M9 hal vZ hg;generalize wn.heap.size=b9 at h9 ⊢;refine hK0.out _ _ ?_;clear hK0;refine wp_seq_h' fun K0 hK0=>?_
 obtain⟨f0,f1,f2,f3,f4,f5,f6,f7,f8,f9⟩:=cN h9.1
 go_wp2_with fail
 refine (propose_any n9 ⟨lo9,lc9,vo9,vc9,no9,nc9,mo9,mc9⟩ hz9 t htt aL aE aO _ (hG.next hB) h9.2).mono ?_;rintro e wn ⟨sP,rfl,M11,kP,hb2⟩;clear f0 f1 f2 f3 f4 f5 f6 f7 f8 f9;obtain⟨lo11,lc11,vo11,vc11,no11,nc11,mo11,mc11⟩:=sP;replace hB:=RB.trans _ _ _ hB hb2;replace h3:=BxLw.next h3 hb2;replace NA:=NetV.rb _ _ _ NA hb2;replace h4:=BxLw.next h4 hb2;replace h8:=BxLw.next h8 hb2;replace h9:=BxLw.next h9 hb2;clear hb2;have hal:=RB.alloc wn (.cells (ndL nd0 ns0).toArray 27);have vZ:=ndB_new wn nd0 ns0
 go_wp2_with (first|((with_reducible refine wB 27 (.tmp 11) (.tmp 63) (wn.heap.size) (ndL (prN n9 t) (⟨lo11,lc11,vo11,vc11,no11,nc11,mo11,mc11⟩)) vZ ?_);intro W vW hg)|fail)
 have hgb:=gr_rb hal hg nl;replace hB:=RB.trans _ _ _ hB hgb;replace h3:=BxLw.next h3 hgb;replace NA:=NetV.rb _ _ _ NA hgb;replace h4:=BxLw.next h4 hgb;replace h8:=BxLw.next h8 hgb;replace h9:=BxLw.next h9 hgb;replace M11:=NdM.next M11 hgb;clear hgb;have h11:BxLw W wn.heap.size (prN n9 t) ⟨lo11,lc11,vo11,vc11,no11,nc11,mo11,mc11⟩:=⟨vW,M11⟩
 clear vW M11 hal vZ hg;generalize wn.heap.size=b11 at h11 ⊢;refine hK0.out _ _ ?_;clear hK0;have hp:=hgd9.eqp t;have fP:=hgd9.prN t;refine wp_seq_h' fun K1 hK1=>?_
 refine wp_seq_h' fun K0 hK0=>?_
 obtain⟨f0,f1,f2,f3,f4,f5,f6,f7,f8,f9⟩:=cN h9.1
 go_wp2_with fail
 refine (specPropose_any n9 ⟨lo9,lc9,vo9,vc9,no9,nc9,mo9,mc9⟩ hz9 t htt _ h9.2).mono ?_;rintro e wn ⟨sQ,he,OQ,hb2⟩;clear f0 f1 f2 f3 f4 f5 f6 f7 f8 f9;rw[hp.1,hp.2]at he;rw[hp.1]at OQ;subst he;obtain⟨lo13,lc13,vo13,vc13,no13,nc13,mo13,mc13⟩:=sQ;have M13:=OQ.M;clear OQ;replace hB:=RB.trans _ _ _ hB hb2;replace h3:=BxLw.next h3 hb2;replace NA:=NetV.rb _ _ _ NA hb2;replace h4:=BxLw.next h4 hb2;replace h8:=BxLw.next h8 hb2;replace h9:=BxLw.next h9 hb2;replace h11:=BxLw.next h11 hb2;clear hb2;have hal:=RB.alloc wn (.cells (ndL nd0 ns0).toArray 27);have vZ:=ndB_new wn nd0 ns0
 go_wp2_with (first|((with_reducible refine wB 27 (.tmp 13) (.tmp 69) (wn.heap.size) (ndL (prN n9 t) (⟨lo13,lc13,vo13,vc13,no13,nc13,mo13,mc13⟩)) vZ ?_);intro W vW hg)|fail)
 have hgb:=gr_rb hal hg nl;replace hB:=RB.trans _ _ _ hB hgb;replace h3:=BxLw.next h3 hgb;replace NA:=NetV.rb _ _ _ NA hgb;replace h4:=BxLw.next h4 hgb;replace h8:=BxLw.next h8 hgb;replace h9:=BxLw.next h9 hgb;replace h11:=BxLw.next h11 hgb;replace M13:=NdM.next M13 hgb;clear hgb;have h13:BxLw W wn.heap.size (prN n9 t) ⟨lo13,lc13,vo13,vc13,no13,nc13,mo13,mc13⟩:=⟨vW,M13⟩
 clear vW M13 hal vZ hg;generalize wn.heap.size=b13 at h13 ⊢;refine hK0.out _ _ ?_;clear hK0;refine wp_seq_h' fun K0 hK0=>?_
 refine plain_all (by kernel_rfl) RB RB.refl RB.trans
  [isV (.int .i64 (prK n9 t)),isV (.int .i64 (prK n9 t)),isV (.bool false),isV (.bool false),isV (ndV (prN n9 t) ⟨lo11,lc11,vo11,vc11,no11,nc11,mo11,mc11⟩),isV (ndV (prN n9 t) ⟨lo13,lc13,vo13,vc13,no13,nc13,mo13,mc13⟩),isV (.bool true),isV (.bool false),isV (.bool false)]
  ⟨isV.rb,isV.rb,isV.rb,isV.rb,isV.rb,isV.rb,isV.rb,isV.rb,isV.rb,trivial⟩ rfl ?_ ?_
 ·refine⟨?_,?_,?_,?_,?_,?_,?_,?_,?_,trivial⟩
  ·exact oq rfl fun ev w' v hR E pr=>by
    have e1:=E.was 12 _;simp[go_sem,e1]
  ·exact oq rfl fun ev w' v hR E pr=>by
    have e1:=E.was 14 _;simp[go_sem,e1]
  ·exact oq rfl fun ev w' v hR E pr=>by
    have e1:=E.eq pr 0 71;have e2:=E.eq pr 1 72;simp[go_sem,e1,e2]
  ·exact oq rfl fun ev w' v hR E pr=>by
    have e1:=E.eq pr 2 73;simp[go_sem,e1]
  ·exact OpOk.sGet RB.refl 3 74 false (fun _ _ h=>h) _ (fun _=>rfl) fun ev w' v hR E pr=>by
    have e1:=E.was 11 _;exact exec_nd rfl e1 (h11.next hR).1
  ·exact OpOk.sGet RB.refl 3 74 false (fun _ _ h=>h) _ (fun _=>rfl) fun ev w' v hR E pr=>by
    have e1:=E.was 13 _;exact exec_nd rfl e1 (h13.next hR).1
  ·refine OpOk.sCall 3 74 false (fun _ _ h=>h) fun ev w' v hR E pr=>?_
   have e1:=E.eq pr 4 75;have e2:=E.eq pr 5 76;refine⟨9,#[ndV (prN n9 t) ⟨lo11,lc11,vo11,vc11,no11,nc11,mo11,mc11⟩,ndV (prN n9 t) ⟨lo13,lc13,vo13,vc13,no13,nc13,mo13,mc13⟩],by simp[go_sem,e1,e2,E.fn],(likeNode_same (prN n9 t) ⟨lo11,lc11,vo11,vc11,no11,nc11,mo11,mc11⟩ ⟨lo13,lc13,vo13,vc13,no13,nc13,mo13,mc13⟩ fP.1 fP.2.1 fP.2.2.1 fP.2.2.2 w' (h11.next hR).2 (h13.next hR).2).mono ?_⟩;rintro e9 w9 ⟨rfl,hb9⟩;exact⟨_,rfl,hb9,rfl⟩
  ·exact OpOk.sGet RB.refl 3 74 false (fun _ _ h=>h) _ (fun _=>rfl) fun ev w' v hR E pr=>by
    have e1:=E.eq pr 6 77;simp[go_sem,e1]
  ·exact oq rfl fun ev w' v hR E pr=>by
    have e1:=E.eq pr 3 74;have e2:=E.eq pr 7 78;simp[go_sem,E.con,e1,e2]
 intro v V14 hR hp;obtain⟨-,-,-,-,-,-,-,-,p8,-⟩:=hp;replace p8:v 8=.bool false:=p8;simp only[putL,Nat.zero_add,Nat.reduceAdd,p8,Act.put,List.setIfInBounds_toArray,List.set_cons_zero,List.set_cons_succ];clear p8;clear h13;replace hB:=RB.trans _ _ _ hB hR;replace h3:=BxLw.next h3 hR;replace NA:=NetV.rb _ _ _ NA hR;replace h4:=BxLw.next h4 hR;replace h8:=BxLw.next h8 hR;replace h9:=BxLw.next h9 hR;replace h11:=BxLw.next h11 hR;clear hR;refine hK0.out _ _ ?_;clear hK0;go_wp2;refine hK1.out _ _ ?_;clear hK1;replace NA:=NetV.from NA (Nat.zero_le _)
 refine wp_seq_k fun K1 hK1=>?_
 go_cut [] (fun wc=>RB w1 wc/\BxLw wc b3 n ⟨lo3,lc3,vo3,vc3,no3,nc3,mo3,mc3⟩/\BxLw wc b4 (tmN n) ⟨lo4,lc4,vo4,vc4,no4,nc4,mo4,mc4⟩/\BxLw wc b8 (rstN n) ⟨lo8,lc8,vo8,vc8,no8,nc8,mo8,mc8⟩/\NetV 0 (tmL n) va wc)
 case first=>
  refine wp_seq_h' fun K0 hK0=>?_
  by_cases hk0:0<prK n9 t
  ·obtain⟨hB9,hPB,eK,elog⟩:=prK_pos hk0
   have hokP:=(hgd9.ok hB9).pr t;have hBP:nodeB (prN n9 t)=true:=hokP.B;have hzP:NdZ (prN n9 t) ⟨lo11,lc11,vo11,vc11,no11,nc11,mo11,mc11⟩:=hokP.zz (prN_tx hz9.tx htt) kP.l kP.v kP.x kP.m;obtain⟨q,o,elo,c0,c1⟩:=h11.2.l.n n9.log.length (by rw[elog];simp);replace elo:lo11=some ⟨q,o,none⟩:=elo;have hlen:=hz9.l;rw[show tOf (prN n9 t).log n9.log.length=n9.term from by rw[elog,tOf_app,if_neg (by omega),if_pos rfl]]at c0;rw[show xOf (prN n9 t).log n9.log.length=t from by rw[elog,xOf_app _ _ _ (by omega),if_neg (by omega)]]at c1;have hw1:IntKind.i64.wrap (prK n9 t-1)=(n9.log.length:Int):=by rw[IntKind.wrap_i64]<;>omega
   have hw2:IntKind.i64.wrap ((n9.log.length:Int)+1)=(n9.log.length:Int)+1:=by rw[IntKind.wrap_i64]<;>omega
   have hi0:(0:Int)<=(n9.log.length:Int):=by omega
   have hil:(n9.log.length:Int)<((prN n9 t).log.length:Int):=by rw[elog];simp;omega
   refine region_all (by kernel_rfl) (by kernel_rfl) RB RB.refl RB.trans
    [isV (.int .i64 (prK n9 t)),isV (.bool true),isV (.bool true),isV (.pointer (some ⟨b11,4,none⟩)),isV (.slice lo11 (prN n9 t).log.length lc11),isV (.int .i64 (prK n9 t)),isV (.int .i64 ((n9.log.length:Nat):Int)),isV (.pointer (some ⟨q,o+n9.log.length*2,none⟩)),isV (.pointer (some ⟨q,o+n9.log.length*2+1,none⟩)),isV (.string t),isV (.string t),isV (.bool false),isV (.bool false),isV (.pointer (some ⟨b11,4,none⟩)),isV (.slice lo11 (prN n9 t).log.length lc11),isV (.int .i64 (prK n9 t)),isV (.int .i64 ((n9.log.length:Nat):Int)),isV (.pointer (some ⟨q,o+n9.log.length*2,none⟩)),isV (.pointer (some ⟨q,o+n9.log.length*2,none⟩)),isV (.int .i64 n9.term),isV (.pointer (some ⟨b9,2,none⟩)),isV (.int .i64 n9.term),isV (.bool false),isV (.bool false),isV (.bool false),isV (.int .i64 (prK n9 t)),isV (.pointer (some ⟨b9,4,none⟩)),isV (.slice lo9 n9.log.length lc9),isV (.int .i64 (n9.log.length:Int)),isV (.int .i64 ((n9.log.length:Int)+1)),isV (.bool false),isV (.bool false),isV (.bool false),isV (.pointer (some ⟨b11,4,none⟩)),isV (.slice lo11 (prN n9 t).log.length lc11),isV (.int .i64 (prK n9 t)),isV (.int .i64 ((n9.log.length:Nat):Int)),isV (.slice lo11 n9.log.length lc11),isV (.pointer (some ⟨b9,4,none⟩)),isV (.slice lo9 n9.log.length lc9),isV (.bool true),isV (.bool false),isV (.bool false),isV (.bool false),isV (ndV (prN n9 t) ⟨lo11,lc11,vo11,vc11,no11,nc11,mo11,mc11⟩),isV (.bool true),isV (.bool false),isV (.bool false),isV (.bool false)]
    ⟨isV.rb,isV.rb,isV.rb,isV.rb,isV.rb,isV.rb,isV.rb,isV.rb,isV.rb,isV.rb,isV.rb,isV.rb,isV.rb,isV.rb,isV.rb,isV.rb,isV.rb,isV.rb,isV.rb,isV.rb,isV.rb,isV.rb,isV.rb,isV.rb,isV.rb,isV.rb,isV.rb,isV.rb,isV.rb,isV.rb,isV.rb,isV.rb,isV.rb,isV.rb,isV.rb,isV.rb,isV.rb,isV.rb,isV.rb,isV.rb,isV.rb,isV.rb,isV.rb,isV.rb,isV.rb,isV.rb,isV.rb,isV.rb,isV.rb,trivial⟩ rfl ?_ ?_
   ·refine⟨?_,?_,?_,?_,?_,?_,?_,?_,?_,?_,?_,?_,?_,?_,?_,?_,?_,?_,?_,?_,?_,?_,?_,?_,?_,?_,?_,?_,?_,?_,?_,?_,?_,?_,?_,?_,?_,?_,?_,?_,?_,?_,?_,?_,?_,?_,?_,?_,?_,trivial⟩
    ·exact oq rfl fun ev w' v hR E pr=>by
      replace hR:=RB.dr hR;have e1:=E.was 12 _;simp[go_sem,e1]
    ·exact oq rfl fun ev w' v hR E pr=>by
      replace hR:=RB.dr hR;have e1:=E.eq pr 0 80;simp[go_sem,E.con,hk0,e1]
    ·exact oq rfl fun ev w' v hR E pr=>by
      replace hR:=RB.dr hR;have e1:=E.eq pr 1 81;simp[go_sem,e1]
    ·exact OpOk.sGet RB.refl 2 82 true (fun _ _ h=>h) _ (fun _=>rfl) fun ev w' v hR E pr=>by
      replace hR:=RB.dr hR;have e1:=E.was 11 _;simp[go_sem,e1]
    ·exact OpOk.sGet RB.refl 2 82 true (fun _ _ h=>h) _ (fun _=>rfl) fun ev w' v hR E pr=>by
      replace hR:=RB.dr hR;have e1:=E.eq pr 3 83;have cc:=(h11.next hR).1.cell (j:=4) (by omega);simp[lf]at cc;simp[go_sem,cc,e1]
    ·exact OpOk.sGet RB.refl 2 82 true (fun _ _ h=>h) _ (fun _=>rfl) fun ev w' v hR E pr=>by
      replace hR:=RB.dr hR;have e1:=E.was 12 _;simp[go_sem,e1]
    ·exact OpOk.sGet RB.refl 2 82 true (fun _ _ h=>h) _ (fun _=>rfl) fun ev w' v hR E pr=>by
      replace hR:=RB.dr hR;have e1:=E.eq pr 5 85;simp[go_sem,E.con,hw1,e1]
    ·exact OpOk.sGet RB.refl 2 82 true (fun _ _ h=>h) _ (fun _=>rfl) fun ev w' v hR E pr=>by
      replace hR:=RB.dr hR;have e1:=E.eq pr 4 84;have e2:=E.eq pr 6 86;simp[go_sem,elo,hi0,hil,e1,e2]
    ·exact OpOk.sGet RB.refl 2 82 true (fun _ _ h=>h) _ (fun _=>rfl) fun ev w' v hR E pr=>by
      replace hR:=RB.dr hR;have e1:=E.eq pr 7 87;simp[go_sem,e1]
    ·exact OpOk.sGet RB.refl 2 82 true (fun _ _ h=>h) _ (fun _=>rfl) fun ev w' v hR E pr=>by
      replace hR:=RB.dr hR;have e1:=E.eq pr 8 88;have cc:=keep_cell hR nl c1;simp[go_sem,cc,e1]
    ·exact OpOk.sGet RB.refl 2 82 true (fun _ _ h=>h) _ (fun _=>rfl) fun ev w' v hR E pr=>by
      replace hR:=RB.dr hR;have e1:=E.was 10 _;simp[go_sem,e1]
    ·exact OpOk.sGet RB.refl 2 82 true (fun _ _ h=>h) _ (fun _=>rfl) fun ev w' v hR E pr=>by
      replace hR:=RB.dr hR;have e1:=E.eq pr 9 89;have e2:=E.eq pr 10 90;simp[go_sem,e1,e2]
    ·exact OpOk.sGet RB.refl 2 82 true (fun _ _ h=>h) _ (fun _=>rfl) fun ev w' v hR E pr=>by
      replace hR:=RB.dr hR;have e1:=E.eq pr 11 91;simp[go_sem,e1]
    ·exact OpOk.sGet RB.refl 12 92 false (fun _ _ h=>h) _ (fun _=>rfl) fun ev w' v hR E pr=>by
      replace hR:=RB.dr hR;have e1:=E.was 11 _;simp[go_sem,e1]
    ·exact OpOk.sGet RB.refl 12 92 false (fun _ _ h=>h) _ (fun _=>rfl) fun ev w' v hR E pr=>by
      replace hR:=RB.dr hR;have e1:=E.eq pr 13 93;have cc:=(h11.next hR).1.cell (j:=4) (by omega);simp[lf]at cc;simp[go_sem,cc,e1]
    ·exact OpOk.sGet RB.refl 12 92 false (fun _ _ h=>h) _ (fun _=>rfl) fun ev w' v hR E pr=>by
      replace hR:=RB.dr hR;have e1:=E.was 12 _;simp[go_sem,e1]
    ·exact OpOk.sGet RB.refl 12 92 false (fun _ _ h=>h) _ (fun _=>rfl) fun ev w' v hR E pr=>by
      replace hR:=RB.dr hR;have e1:=E.eq pr 15 95;simp[go_sem,E.con,hw1,e1]
    ·exact OpOk.sGet RB.refl 12 92 false (fun _ _ h=>h) _ (fun _=>rfl) fun ev w' v hR E pr=>by
      replace hR:=RB.dr hR;have e1:=E.eq pr 14 94;have e2:=E.eq pr 16 96;simp[go_sem,elo,hi0,hil,e1,e2]
    ·exact OpOk.sGet RB.refl 12 92 false (fun _ _ h=>h) _ (fun _=>rfl) fun ev w' v hR E pr=>by
      replace hR:=RB.dr hR;have e1:=E.eq pr 17 97;simp[go_sem,e1]
    ·exact OpOk.sGet RB.refl 12 92 false (fun _ _ h=>h) _ (fun _=>rfl) fun ev w' v hR E pr=>by
      replace hR:=RB.dr hR;have e1:=E.eq pr 18 98;have cc:=keep_cell hR nl c0;simp[go_sem,cc,e1]
    ·exact OpOk.sGet RB.refl 12 92 false (fun _ _ h=>h) _ (fun _=>rfl) fun ev w' v hR E pr=>by
      replace hR:=RB.dr hR;have e1:=E.was 9 _;simp[go_sem,e1]
    ·exact OpOk.sGet RB.refl 12 92 false (fun _ _ h=>h) _ (fun _=>rfl) fun ev w' v hR E pr=>by
      replace hR:=RB.dr hR;have e1:=E.eq pr 20 100;have cc:=(h9.next hR).1.cell (j:=2) (by omega);simp[lf]at cc;simp[go_sem,cc,e1]
    ·exact OpOk.sGet RB.refl 12 92 false (fun _ _ h=>h) _ (fun _=>rfl) fun ev w' v hR E pr=>by
      replace hR:=RB.dr hR;have e1:=E.eq pr 19 99;have e2:=E.eq pr 21 101;simp[go_sem,e1,e2]
    ·exact OpOk.sGet RB.refl 2 82 true (fun _ _ h=>h) _ (fun _=>rfl) fun ev w' v hR E pr=>by
      replace hR:=RB.dr hR;have e1:=E.eq pr 12 92;have e2:=E.eq pr 22 102;simp[go_sem,E.con,e1,e2]
    ·exact OpOk.sGet RB.refl 2 82 true (fun _ _ h=>h) _ (fun _=>rfl) fun ev w' v hR E pr=>by
      replace hR:=RB.dr hR;have e1:=E.eq pr 23 103;simp[go_sem,e1]
    ·exact OpOk.sGet RB.refl 24 104 false (fun _ _ h=>h) _ (fun _=>rfl) fun ev w' v hR E pr=>by
      replace hR:=RB.dr hR;have e1:=E.was 12 _;simp[go_sem,e1]
    ·exact OpOk.sGet RB.refl 24 104 false (fun _ _ h=>h) _ (fun _=>rfl) fun ev w' v hR E pr=>by
      replace hR:=RB.dr hR;have e1:=E.was 9 _;simp[go_sem,e1]
    ·exact OpOk.sGet RB.refl 24 104 false (fun _ _ h=>h) _ (fun _=>rfl) fun ev w' v hR E pr=>by
      replace hR:=RB.dr hR;have e1:=E.eq pr 26 106;have cc:=(h9.next hR).1.cell (j:=4) (by omega);simp[lf]at cc;simp[go_sem,cc,e1]
    ·exact OpOk.sGet RB.refl 24 104 false (fun _ _ h=>h) _ (fun _=>rfl) fun ev w' v hR E pr=>by
      replace hR:=RB.dr hR;have e1:=E.eq pr 27 107;simp[go_sem,e1]
    ·exact OpOk.sGet RB.refl 24 104 false (fun _ _ h=>h) _ (fun _=>rfl) fun ev w' v hR E pr=>by
      replace hR:=RB.dr hR;have e1:=E.eq pr 28 108;simp[go_sem,E.con,hw2,e1]
    ·exact OpOk.sGet RB.refl 24 104 false (fun _ _ h=>h) _ (fun _=>rfl) fun ev w' v hR E pr=>by
      replace hR:=RB.dr hR;have e1:=E.eq pr 25 105;have e2:=E.eq pr 29 109;simp[go_sem,eK,e1,e2]
    ·exact OpOk.sGet RB.refl 2 82 true (fun _ _ h=>h) _ (fun _=>rfl) fun ev w' v hR E pr=>by
      replace hR:=RB.dr hR;have e1:=E.eq pr 24 104;have e2:=E.eq pr 30 110;simp[go_sem,E.con,e1,e2]
    ·exact OpOk.sGet RB.refl 2 82 true (fun _ _ h=>h) _ (fun _=>rfl) fun ev w' v hR E pr=>by
      replace hR:=RB.dr hR;have e1:=E.eq pr 31 111;simp[go_sem,e1]
    ·exact OpOk.sGet RB.refl 32 112 false (fun _ _ h=>h) _ (fun _=>rfl) fun ev w' v hR E pr=>by
      replace hR:=RB.dr hR;have e1:=E.was 11 _;simp[go_sem,e1]
    ·exact OpOk.sGet RB.refl 32 112 false (fun _ _ h=>h) _ (fun _=>rfl) fun ev w' v hR E pr=>by
      replace hR:=RB.dr hR;have e1:=E.eq pr 33 113;have cc:=(h11.next hR).1.cell (j:=4) (by omega);simp[lf]at cc;simp[go_sem,cc,e1]
    ·exact OpOk.sGet RB.refl 32 112 false (fun _ _ h=>h) _ (fun _=>rfl) fun ev w' v hR E pr=>by
      replace hR:=RB.dr hR;have e1:=E.was 12 _;simp[go_sem,e1]
    ·exact OpOk.sGet RB.refl 32 112 false (fun _ _ h=>h) _ (fun _=>rfl) fun ev w' v hR E pr=>by
      replace hR:=RB.dr hR;have e1:=E.eq pr 35 115;simp[go_sem,E.con,hw1,e1]
    ·exact OpOk.sGet RB.refl 32 112 false (fun _ _ h=>h) _ (fun _=>rfl) fun ev w' v hR E pr=>by
      replace hR:=RB.dr hR;have e1:=E.eq pr 34 114;have e2:=E.eq pr 36 116;exact exec_to rfl e1 e2 (by rw[elog];simp) kP.l
    ·exact OpOk.sGet RB.refl 32 112 false (fun _ _ h=>h) _ (fun _=>rfl) fun ev w' v hR E pr=>by
      replace hR:=RB.dr hR;have e1:=E.was 9 _;simp[go_sem,e1]
    ·exact OpOk.sGet RB.refl 32 112 false (fun _ _ h=>h) _ (fun _=>rfl) fun ev w' v hR E pr=>by
      replace hR:=RB.dr hR;have e1:=E.eq pr 38 118;have cc:=(h9.next hR).1.cell (j:=4) (by omega);simp[lf]at cc;simp[go_sem,cc,e1]
    ·refine OpOk.sCall 32 112 false (fun _ _ h=>h) fun ev w' v hR E pr=>?_
     replace hR:=RB.dr hR;have e1:=E.eq pr 37 117;have e2:=E.eq pr 39 119;refine⟨23,#[.slice lo11 n9.log.length lc11,.slice lo9 n9.log.length lc9],by simp[go_sem,e1,e2,E.fn],(likeLog_same lo11 lo9 n9.log.length lc11 lc9 (tOf n9.log) (xOf n9.log) hz9.l w' (prRow (h11.next hR).2.l.n elog) (h9.next hR).2.l.n).mono ?_⟩;rintro e9 w9 ⟨rfl,hb9⟩;exact⟨_,rfl,hb9,rfl⟩
    ·exact OpOk.sGet RB.refl 32 112 false (fun _ _ h=>h) _ (fun _=>rfl) fun ev w' v hR E pr=>by
      replace hR:=RB.dr hR;have e1:=E.eq pr 40 120;simp[go_sem,e1]
    ·exact OpOk.sGet RB.refl 2 82 true (fun _ _ h=>h) _ (fun _=>rfl) fun ev w' v hR E pr=>by
      replace hR:=RB.dr hR;have e1:=E.eq pr 32 112;have e2:=E.eq pr 41 121;simp[go_sem,E.con,e1,e2]
    ·exact OpOk.sGet RB.refl 2 82 true (fun _ _ h=>h) _ (fun _=>rfl) fun ev w' v hR E pr=>by
      replace hR:=RB.dr hR;have e1:=E.eq pr 42 122;simp[go_sem,e1]
    ·exact OpOk.sGet RB.refl 43 123 false (fun _ _ h=>h) _ (fun _=>rfl) fun ev w' v hR E pr=>by
      replace hR:=RB.dr hR;have e1:=E.was 11 _;exact exec_nd rfl e1 (h11.next hR).1
    ·refine OpOk.sCall 43 123 false (fun _ _ h=>h) fun ev w' v hR E pr=>?_
     replace hR:=RB.dr hR;have e1:=E.eq pr 44 124;refine⟨12,#[ndV (prN n9 t) ⟨lo11,lc11,vo11,vc11,no11,nc11,mo11,mc11⟩],by simp[go_sem,e1,E.fn],(nodeOk_any (prN n9 t) ⟨lo11,lc11,vo11,vc11,no11,nc11,mo11,mc11⟩ hzP aL aE aO w' (hG.next (RB.trans _ _ _ hB hR)) (h11.next hR).2).mono ?_⟩;rintro e9 w9 ⟨rfl,hb9⟩;rw[hBP];exact⟨_,rfl,hb9,rfl⟩
    ·exact OpOk.sGet RB.refl 43 123 false (fun _ _ h=>h) _ (fun _=>rfl) fun ev w' v hR E pr=>by
      replace hR:=RB.dr hR;have e1:=E.eq pr 45 125;simp[go_sem,e1]
    ·exact OpOk.sGet RB.refl 2 82 true (fun _ _ h=>h) _ (fun _=>rfl) fun ev w' v hR E pr=>by
      replace hR:=RB.dr hR;have e1:=E.eq pr 43 123;have e2:=E.eq pr 46 126;simp[go_sem,E.con,e1,e2]
    ·exact oq rfl fun ev w' v hR E pr=>by
      replace hR:=RB.dr hR;have e1:=E.eq pr 2 82;have e2:=E.eq pr 47 127;simp[go_sem,E.con,e1,e2]
   intro v V16 hR hp;replace hR:=RB.dr hR;obtain⟨-,-,-,-,-,-,-,-,-,-,-,-,-,-,-,-,-,-,-,-,-,-,-,-,-,-,-,-,-,-,-,-,-,-,-,-,-,-,-,-,-,-,-,-,-,-,-,-,p48,-⟩:=hp;replace p48:v 48=.bool false:=p48;simp only[putL,Nat.zero_add,Nat.reduceAdd,p48,Act.put,List.setIfInBounds_toArray,List.set_cons_zero,List.set_cons_succ];clear p48;clear c0 c1 eK elog hw1 hw2 hi0 hil elo hlen hBP hPB hzP hokP hB9;replace hB:=RB.trans _ _ _ hB hR;replace h3:=BxLw.next h3 hR;replace NA:=NetV.rb _ _ _ NA hR;replace h4:=BxLw.next h4 hR;replace h8:=BxLw.next h8 hR;replace h9:=BxLw.next h9 hR;replace h11:=BxLw.next h11 hR;clear hR;clear hk0;refine hK0.out _ _ ?_;clear hK0;go_wp2
   go_meet
   case rel=>exact⟨hB,h3,h4,h8,NA⟩
  ·refine region_all (by kernel_rfl) (by kernel_rfl) RB RB.refl RB.trans
    [isV (.int .i64 (prK n9 t)),isV (.bool false),isV (.bool false),isV undef,isV undef,isV undef,isV undef,isV undef,isV undef,isV undef,isV undef,isV undef,isV undef,isV undef,isV undef,isV undef,isV undef,isV undef,isV undef,isV undef,isV undef,isV undef,isV undef,isV undef,isV undef,isV undef,isV undef,isV undef,isV undef,isV undef,isV undef,isV undef,isV undef,isV undef,isV undef,isV undef,isV undef,isV undef,isV undef,isV undef,isV undef,isV undef,isV undef,isV undef,isV undef,isV undef,isV undef,isV undef,isV (.bool false)]
    ⟨isV.rb,isV.rb,isV.rb,isV.rb,isV.rb,isV.rb,isV.rb,isV.rb,isV.rb,isV.rb,isV.rb,isV.rb,isV.rb,isV.rb,isV.rb,isV.rb,isV.rb,isV.rb,isV.rb,isV.rb,isV.rb,isV.rb,isV.rb,isV.rb,isV.rb,isV.rb,isV.rb,isV.rb,isV.rb,isV.rb,isV.rb,isV.rb,isV.rb,isV.rb,isV.rb,isV.rb,isV.rb,isV.rb,isV.rb,isV.rb,isV.rb,isV.rb,isV.rb,isV.rb,isV.rb,isV.rb,isV.rb,isV.rb,isV.rb,trivial⟩ rfl ?_ ?_
   ·refine⟨?_,?_,?_,?_,?_,?_,?_,?_,?_,?_,?_,?_,?_,?_,?_,?_,?_,?_,?_,?_,?_,?_,?_,?_,?_,?_,?_,?_,?_,?_,?_,?_,?_,?_,?_,?_,?_,?_,?_,?_,?_,?_,?_,?_,?_,?_,?_,?_,?_,trivial⟩
    ·exact oq rfl fun ev w' v hR E pr=>by
      replace hR:=RB.dr hR;have e1:=E.was 12 _;simp[go_sem,e1]
    ·exact oq rfl fun ev w' v hR E pr=>by
      replace hR:=RB.dr hR;have e1:=E.eq pr 0 80;simp[go_sem,E.con,hk0,e1]
    ·exact oq rfl fun ev w' v hR E pr=>by
      replace hR:=RB.dr hR;have e1:=E.eq pr 1 81;simp[go_sem,e1]
    ·exact OpOk.never 2 82 true (fun _ _ h=>.inl h) (fun _=>rfl)
    ·exact OpOk.never 2 82 true (fun _ _ h=>.inl h) (fun _=>rfl)
    ·exact OpOk.never 2 82 true (fun _ _ h=>.inl h) (fun _=>rfl)
    ·exact OpOk.never 2 82 true (fun _ _ h=>.inl h) (fun _=>rfl)
    ·exact OpOk.never 2 82 true (fun _ _ h=>.inl h) (fun _=>rfl)
    ·exact OpOk.never 2 82 true (fun _ _ h=>.inl h) (fun _=>rfl)
    ·exact OpOk.never 2 82 true (fun _ _ h=>.inl h) (fun _=>rfl)
    ·exact OpOk.never 2 82 true (fun _ _ h=>.inl h) (fun _=>rfl)
    ·exact OpOk.never 2 82 true (fun _ _ h=>.inl h) (fun _=>rfl)
    ·exact OpOk.never 2 82 true (fun _ _ h=>.inl h) (fun _=>rfl)
    ·exact OpOk.never 12 92 false (fun _ _ h=>.inr h) (fun _=>rfl)
    ·exact OpOk.never 12 92 false (fun _ _ h=>.inr h) (fun _=>rfl)
    ·exact OpOk.never 12 92 false (fun _ _ h=>.inr h) (fun _=>rfl)
    ·exact OpOk.never 12 92 false (fun _ _ h=>.inr h) (fun _=>rfl)
    ·exact OpOk.never 12 92 false (fun _ _ h=>.inr h) (fun _=>rfl)
    ·exact OpOk.never 12 92 false (fun _ _ h=>.inr h) (fun _=>rfl)
    ·exact OpOk.never 12 92 false (fun _ _ h=>.inr h) (fun _=>rfl)
    ·exact OpOk.never 12 92 false (fun _ _ h=>.inr h) (fun _=>rfl)
    ·exact OpOk.never 12 92 false (fun _ _ h=>.inr h) (fun _=>rfl)
    ·exact OpOk.never 12 92 false (fun _ _ h=>.inr h) (fun _=>rfl)
    ·exact OpOk.never 2 82 true (fun _ _ h=>.inl h) (fun _=>rfl)
    ·exact OpOk.never 2 82 true (fun _ _ h=>.inl h) (fun _=>rfl)
    ·exact OpOk.never 24 104 false (fun _ _ h=>.inr h) (fun _=>rfl)
    ·exact OpOk.never 24 104 false (fun _ _ h=>.inr h) (fun _=>rfl)
    ·exact OpOk.never 24 104 false (fun _ _ h=>.inr h) (fun _=>rfl)
    ·exact OpOk.never 24 104 false (fun _ _ h=>.inr h) (fun _=>rfl)
    ·exact OpOk.never 24 104 false (fun _ _ h=>.inr h) (fun _=>rfl)
    ·exact OpOk.never 24 104 false (fun _ _ h=>.inr h) (fun _=>rfl)
    ·exact OpOk.never 2 82 true (fun _ _ h=>.inl h) (fun _=>rfl)
    ·exact OpOk.never 2 82 true (fun _ _ h=>.inl h) (fun _=>rfl)
    ·exact OpOk.never 32 112 false (fun _ _ h=>.inr h) (fun _=>rfl)
    ·exact OpOk.never 32 112 false (fun _ _ h=>.inr h) (fun _=>rfl)
    ·exact OpOk.never 32 112 false (fun _ _ h=>.inr h) (fun _=>rfl)
    ·exact OpOk.never 32 112 false (fun _ _ h=>.inr h) (fun _=>rfl)
    ·exact OpOk.never 32 112 false (fun _ _ h=>.inr h) (fun _=>rfl)
    ·exact OpOk.never 32 112 false (fun _ _ h=>.inr h) (fun _=>rfl)
    ·exact OpOk.never 32 112 false (fun _ _ h=>.inr h) (fun _=>rfl)
    ·exact OpOk.never 32 112 false (fun _ _ h=>.inr h) (fun _=>rfl)
    ·exact OpOk.never 32 112 false (fun _ _ h=>.inr h) (fun _=>rfl)
    ·exact OpOk.never 2 82 true (fun _ _ h=>.inl h) (fun _=>rfl)
    ·exact OpOk.never 2 82 true (fun _ _ h=>.inl h) (fun _=>rfl)
    ·exact OpOk.never 43 123 false (fun _ _ h=>.inr h) (fun _=>rfl)
    ·exact OpOk.never 43 123 false (fun _ _ h=>.inr h) (fun _=>rfl)
    ·exact OpOk.never 43 123 false (fun _ _ h=>.inr h) (fun _=>rfl)
    ·exact OpOk.never 2 82 true (fun _ _ h=>.inl h) (fun _=>rfl)
    ·exact oq rfl fun ev w' v hR E pr=>by
      replace hR:=RB.dr hR;have e1:=E.eq pr 2 82;have e2:=E.eq pr 47 127;simp[go_sem,E.con,e1,e2]
   intro v V16 hR hp;replace hR:=RB.dr hR;obtain⟨-,-,-,-,-,-,-,-,-,-,-,-,-,-,-,-,-,-,-,-,-,-,-,-,-,-,-,-,-,-,-,-,-,-,-,-,-,-,-,-,-,-,-,-,-,-,-,-,p48,-⟩:=hp;replace p48:v 48=.bool false:=p48;simp only[putL,Nat.zero_add,Nat.reduceAdd,p48,Act.put,List.setIfInBounds_toArray,List.set_cons_zero,List.set_cons_succ];clear p48;replace hB:=RB.trans _ _ _ hB hR;replace h3:=BxLw.next h3 hR;replace NA:=NetV.rb _ _ _ NA hR;replace h4:=BxLw.next h4 hR;replace h8:=BxLw.next h8 hR;replace h9:=BxLw.next h9 hR;replace h11:=BxLw.next h11 hR;clear hR;clear hk0;refine hK0.out _ _ ?_;clear hK0;go_wp2
   go_meet
   case rel=>exact⟨hB,h3,h4,h8,NA⟩
 case rest=>
  obtain⟨hB,h3,h4,h8,NA⟩:=hcut;refine hK1 _ _ ?_;clear hK1;refine wp_seq_h' fun K1 hK1=>?_
  obtain⟨f0,f1,f2,f3,f4,f5,f6,f7,f8,f9⟩:=cN h3.1
  go_wp2_with fail
  refine (specNodeOk_any n ⟨lo3,lc3,vo3,vc3,no3,nc3,mo3,mc3⟩ hz _ h3.2).mono ?_;rintro e wn ⟨rfl,hb2⟩;replace hB:=RB.trans _ _ _ hB hb2;replace h3:=BxLw.next h3 hb2;replace NA:=NetV.rb _ _ _ NA hb2;replace h4:=BxLw.next h4 hb2;replace h8:=BxLw.next h8 hb2;clear hb2;clear f0 f1 f2 f3 f4 f5 f6 f7 f8 f9;rw[hgd.R];rcases Bool.eq_false_or_eq_true (nodeB n) with hBn|hBn
  rotate_left
  ·rw[hBn]
   rw[(tm_nil hBn).1]at h4;rw[(tm_nil hBn).2]at h8;obtain⟨f0,f1,f2,f3,f4,f5,f6,f7,f8,f9⟩:=cN h4.1;obtain⟨g0,g1,g2,g3,g4,g5,g6,g7,g8,g9⟩:=cN h8.1
   go_wp2_with fail
   refine (likeNode_same nd0 ⟨lo4,lc4,vo4,vc4,no4,nc4,mo4,mc4⟩ ns0 few0.1 few0.2.1 few0.2.2.1 few0.2.2.2 _ h4.2 (bx0 _)).mono ?_;rintro e wn ⟨rfl,hb2⟩;replace hB:=RB.trans _ _ _ hB hb2;replace h3:=BxLw.next h3 hb2;replace NA:=NetV.rb _ _ _ NA hb2;replace h4:=BxLw.next h4 hb2;replace h8:=BxLw.next h8 hb2;clear hb2;clear f0 f1 f2 f3 f4 f5 f6 f7 f8 f9 g0 g1 g2 g3 g4 g5 g6 g7 g8 g9;obtain⟨f0,f1,f2,f3,f4,f5,f6,f7,f8,f9⟩:=cN h4.1;obtain⟨g0,g1,g2,g3,g4,g5,g6,g7,g8,g9⟩:=cN h8.1
   go_wp2_with fail
   refine (likeNode_same nd0 ⟨lo8,lc8,vo8,vc8,no8,nc8,mo8,mc8⟩ ns0 few0.1 few0.2.1 few0.2.2.1 few0.2.2.2 _ h8.2 (bx0 _)).mono ?_;rintro e wn ⟨rfl,hb2⟩;replace hB:=RB.trans _ _ _ hB hb2;replace h3:=BxLw.next h3 hb2;replace NA:=NetV.rb _ _ _ NA hb2;replace h4:=BxLw.next h4 hb2;replace h8:=BxLw.next h8 hb2;clear hb2;clear f0 f1 f2 f3 f4 f5 f6 f7 f8 f9 g0 g1 g2 g3 g4 g5 g6 g7 g8 g9;go_wp2;go_ret;exact⟨rfl,hB⟩
  rw[hBn];go_wp2;refine hK1.out _ _ ?_;clear hK1;have hok:=hgd.ok hBn;have ers:rstN n=rsO n:=if_pos hBn;rw[ers]at h8 c8;have hz8:NdZ (rsO n) ⟨lo8,lc8,vo8,vc8,no8,nc8,mo8,mc8⟩:=hok.rs.zz hz.tx c8.1 c8.2.1 c8.2.2.1 c8.2.2.2;have hB8:nodeB (rsO n)=true:=hok.rs.B;refine wp_seq_h' fun K1 hK1=>?_
  refine wp_seq_h' fun K0 hK0=>?_
  refine plain_all (by kernel_rfl) RB RB.refl RB.trans
   [isV (.pointer (some ⟨b8,2,none⟩)),isV (.int .i64 n.term),isV (.pointer (some ⟨b3,2,none⟩)),isV (.int .i64 n.term),isV (.bool false),isV (.bool false),isV (.pointer (some ⟨b8,3,none⟩)),isV (.int .i64 n.vote),isV (.pointer (some ⟨b3,3,none⟩)),isV (.int .i64 n.vote),isV (.bool false),isV (.bool false),isV (.bool false),isV (.pointer (some ⟨b8,4,none⟩)),isV (.slice lo8 n.log.length lc8),isV (.pointer (some ⟨b3,4,none⟩)),isV (.slice lo3 n.log.length lc3),isV (.bool true),isV (.bool false),isV (.bool false),isV (.bool false),isV (ndV (rsO n) ⟨lo8,lc8,vo8,vc8,no8,nc8,mo8,mc8⟩),isV (.bool true),isV (.bool false),isV (.bool false),isV (.bool false),isV (.pointer (some ⟨b8,5,none⟩)),isV (.int .i64 1),isV (.bool false),isV (.bool false)]
   ⟨isV.rb,isV.rb,isV.rb,isV.rb,isV.rb,isV.rb,isV.rb,isV.rb,isV.rb,isV.rb,isV.rb,isV.rb,isV.rb,isV.rb,isV.rb,isV.rb,isV.rb,isV.rb,isV.rb,isV.rb,isV.rb,isV.rb,isV.rb,isV.rb,isV.rb,isV.rb,isV.rb,isV.rb,isV.rb,isV.rb,trivial⟩ rfl ?_ ?_
  ·refine⟨?_,?_,?_,?_,?_,?_,?_,?_,?_,?_,?_,?_,?_,?_,?_,?_,?_,?_,?_,?_,?_,?_,?_,?_,?_,?_,?_,?_,?_,?_,trivial⟩
   ·exact oq rfl fun ev w' v hR E pr=>by
     have e1:=E.was 8 _;simp[go_sem,e1]
   ·exact oq rfl fun ev w' v hR E pr=>by
     have e1:=E.eq pr 0 140;have cc:=(h8.next hR).1.cell (j:=2) (by omega);simp[lf,rsO]at cc;simp[go_sem,cc,e1]
   ·exact oq rfl fun ev w' v hR E pr=>by
     have e1:=E.was 3 _;simp[go_sem,e1]
   ·exact oq rfl fun ev w' v hR E pr=>by
     have e1:=E.eq pr 2 142;have cc:=(h3.next hR).1.cell (j:=2) (by omega);simp[lf]at cc;simp[go_sem,cc,e1]
   ·exact oq rfl fun ev w' v hR E pr=>by
     have e1:=E.eq pr 1 141;have e2:=E.eq pr 3 143;simp[go_sem,e1,e2]
   ·exact oq rfl fun ev w' v hR E pr=>by
     have e1:=E.eq pr 4 144;simp[go_sem,e1]
   ·exact OpOk.sGet RB.refl 5 145 false (fun _ _ h=>h) _ (fun _=>rfl) fun ev w' v hR E pr=>by
     have e1:=E.was 8 _;simp[go_sem,e1]
   ·exact OpOk.sGet RB.refl 5 145 false (fun _ _ h=>h) _ (fun _=>rfl) fun ev w' v hR E pr=>by
     have e1:=E.eq pr 6 146;have cc:=(h8.next hR).1.cell (j:=3) (by omega);simp[lf,rsO]at cc;simp[go_sem,cc,e1]
   ·exact OpOk.sGet RB.refl 5 145 false (fun _ _ h=>h) _ (fun _=>rfl) fun ev w' v hR E pr=>by
     have e1:=E.was 3 _;simp[go_sem,e1]
   ·exact OpOk.sGet RB.refl 5 145 false (fun _ _ h=>h) _ (fun _=>rfl) fun ev w' v hR E pr=>by
     have e1:=E.eq pr 8 148;have cc:=(h3.next hR).1.cell (j:=3) (by omega);simp[lf]at cc;simp[go_sem,cc,e1]
   ·exact OpOk.sGet RB.refl 5 145 false (fun _ _ h=>h) _ (fun _=>rfl) fun ev w' v hR E pr=>by
     have e1:=E.eq pr 7 147;have e2:=E.eq pr 9 149;simp[go_sem,e1,e2]
   ·exact oq rfl fun ev w' v hR E pr=>by
     have e1:=E.eq pr 5 145;have e2:=E.eq pr 10 150;simp[go_sem,E.con,e1,e2]
   ·exact oq rfl fun ev w' v hR E pr=>by
     have e1:=E.eq pr 11 151;simp[go_sem,e1]
   ·exact OpOk.sGet RB.refl 12 152 false (fun _ _ h=>h) _ (fun _=>rfl) fun ev w' v hR E pr=>by
     have e1:=E.was 8 _;simp[go_sem,e1]
   ·exact OpOk.sGet RB.refl 12 152 false (fun _ _ h=>h) _ (fun _=>rfl) fun ev w' v hR E pr=>by
     have e1:=E.eq pr 13 153;have cc:=(h8.next hR).1.cell (j:=4) (by omega);simp[lf,rsO]at cc;simp[go_sem,cc,e1]
   ·exact OpOk.sGet RB.refl 12 152 false (fun _ _ h=>h) _ (fun _=>rfl) fun ev w' v hR E pr=>by
     have e1:=E.was 3 _;simp[go_sem,e1]
   ·exact OpOk.sGet RB.refl 12 152 false (fun _ _ h=>h) _ (fun _=>rfl) fun ev w' v hR E pr=>by
     have e1:=E.eq pr 15 155;have cc:=(h3.next hR).1.cell (j:=4) (by omega);simp[lf]at cc;simp[go_sem,cc,e1]
   ·refine OpOk.sCall 12 152 false (fun _ _ h=>h) fun ev w' v hR E pr=>?_
    have e1:=E.eq pr 14 154;have e2:=E.eq pr 16 156;refine⟨23,#[.slice lo8 n.log.length lc8,.slice lo3 n.log.length lc3],by simp[go_sem,e1,e2,E.fn],(likeLog_same lo8 lo3 n.log.length lc8 lc3 (tOf n.log) (xOf n.log) hz.l w' (h8.next hR).2.l.n (h3.next hR).2.l.n).mono ?_⟩;rintro e9 w9 ⟨rfl,hb9⟩;exact⟨_,rfl,hb9,rfl⟩
   ·exact OpOk.sGet RB.refl 12 152 false (fun _ _ h=>h) _ (fun _=>rfl) fun ev w' v hR E pr=>by
     have e1:=E.eq pr 17 157;simp[go_sem,e1]
   ·exact oq rfl fun ev w' v hR E pr=>by
     have e1:=E.eq pr 12 152;have e2:=E.eq pr 18 158;simp[go_sem,E.con,e1,e2]
   ·exact oq rfl fun ev w' v hR E pr=>by
     have e1:=E.eq pr 19 159;simp[go_sem,e1]
   ·exact OpOk.sGet RB.refl 20 160 false (fun _ _ h=>h) _ (fun _=>rfl) fun ev w' v hR E pr=>by
     have e1:=E.was 8 _;exact exec_nd rfl e1 (h8.next hR).1
   ·refine OpOk.sCall 20 160 false (fun _ _ h=>h) fun ev w' v hR E pr=>?_
    have e1:=E.eq pr 21 161;refine⟨12,#[ndV (rsO n) ⟨lo8,lc8,vo8,vc8,no8,nc8,mo8,mc8⟩],by simp[go_sem,e1,E.fn],(nodeOk_any (rsO n) ⟨lo8,lc8,vo8,vc8,no8,nc8,mo8,mc8⟩ hz8 aL aE aO w' (hG.next (RB.trans _ _ _ hB hR)) (h8.next hR).2).mono ?_⟩;rintro e9 w9 ⟨rfl,hb9⟩;rw[hB8];exact⟨_,rfl,hb9,rfl⟩
   ·exact OpOk.sGet RB.refl 20 160 false (fun _ _ h=>h) _ (fun _=>rfl) fun ev w' v hR E pr=>by
     have e1:=E.eq pr 22 162;simp[go_sem,e1]
   ·exact oq rfl fun ev w' v hR E pr=>by
     have e1:=E.eq pr 20 160;have e2:=E.eq pr 23 163;simp[go_sem,E.con,e1,e2]
   ·exact oq rfl fun ev w' v hR E pr=>by
     have e1:=E.eq pr 24 164;simp[go_sem,e1]
   ·exact OpOk.sGet RB.refl 25 165 false (fun _ _ h=>h) _ (fun _=>rfl) fun ev w' v hR E pr=>by
     have e1:=E.was 8 _;simp[go_sem,e1]
   ·exact OpOk.sGet RB.refl 25 165 false (fun _ _ h=>h) _ (fun _=>rfl) fun ev w' v hR E pr=>by
     have e1:=E.eq pr 26 166;have cc:=(h8.next hR).1.cell (j:=5) (by omega);simp[lf,rsO]at cc;simp[go_sem,cc,e1]
   ·exact OpOk.sGet RB.refl 25 165 false (fun _ _ h=>h) _ (fun _=>rfl) fun ev w' v hR E pr=>by
     have e1:=E.eq pr 27 167;simp[go_sem,E.con,e1]
   ·exact oq rfl fun ev w' v hR E pr=>by
     have e1:=E.eq pr 25 165;have e2:=E.eq pr 28 168;simp[go_sem,E.con,e1,e2]
  intro v V20 hR hp;obtain⟨-,-,-,-,-,-,-,-,-,-,-,-,-,-,-,-,-,-,-,-,-,-,-,-,-,-,-,-,-,p29,-⟩:=hp;replace p29:v 29=.bool false:=p29;simp only[putL,Nat.zero_add,Nat.reduceAdd,p29,Act.put,List.setIfInBounds_toArray,List.set_cons_zero,List.set_cons_succ];clear p29;replace hB:=RB.trans _ _ _ hB hR;replace h3:=BxLw.next h3 hR;replace NA:=NetV.rb _ _ _ NA hR;replace h4:=BxLw.next h4 hR;replace h8:=BxLw.next h8 hR;clear hR;refine hK0.out _ _ ?_;clear hK0;go_wp2;refine hK1.out _ _ ?_;clear hK1;have hBt:nodeB (tmN n)=true:=hok.tm.B;have hz4:NdZ (tmN n) ⟨lo4,lc4,vo4,vc4,no4,nc4,mo4,mc4⟩:=hok.tm.zz (tmN_tx hz.tx) kA.l kA.v kA.x kA.m;have hz0:=hz.l;have htm:=hok.b.t;have hw3:IntKind.i64.wrap (n.term+1)=n.term+1:=by rw[IntKind.wrap_i64]<;>omega
  have hfN:=hok.fewN;refine wp_seq_h' fun K0 hK0=>?_
  rcases tm_two hBn with ⟨e1,e2⟩|⟨e1,e2⟩
  ·rw[e1]at h4 hz4 hBt
   rw[e2]at NA;have hne:(n.term==n.term+1)=false:=by simp;omega
   obtain⟨vao,vcap,vl,eva,hvl,_⟩:=NA;obtain rfl:vl=[]:=by simpa using hvl
   replace eva:va=.slice vao 0 vcap:=eva;subst eva;clear hvl
   refine plain_all (by kernel_rfl) RB RB.refl RB.trans
    [isV (ndV n ⟨lo4,lc4,vo4,vc4,no4,nc4,mo4,mc4⟩),isV (.bool true),isV (.bool true),isV (.pointer (some ⟨b4,2,none⟩)),isV (.int .i64 n.term),isV (.pointer (some ⟨b3,2,none⟩)),isV (.int .i64 n.term),isV (.int .i64 (n.term+1)),isV (.bool false),isV (.bool false),isV undef,isV undef,isV undef,isV undef,isV undef,isV (.bool false),isV (.bool false),isV (ndV n ⟨lo4,lc4,vo4,vc4,no4,nc4,mo4,mc4⟩),isV (ndV n ⟨lo3,lc3,vo3,vc3,no3,nc3,mo3,mc3⟩),isV (.bool true),isV (.bool true),isV (.slice vao 0 vcap),isV (.int .i64 0),isV (.bool true),isV (.bool true),isV (.bool true),isV (.bool true),isV (.bool true)]
    ⟨isV.rb,isV.rb,isV.rb,isV.rb,isV.rb,isV.rb,isV.rb,isV.rb,isV.rb,isV.rb,isV.rb,isV.rb,isV.rb,isV.rb,isV.rb,isV.rb,isV.rb,isV.rb,isV.rb,isV.rb,isV.rb,isV.rb,isV.rb,isV.rb,isV.rb,isV.rb,isV.rb,isV.rb,trivial⟩ rfl ?_ ?_
   ·refine⟨?_,?_,?_,?_,?_,?_,?_,?_,?_,?_,?_,?_,?_,?_,?_,?_,?_,?_,?_,?_,?_,?_,?_,?_,?_,?_,?_,?_,trivial⟩
    ·exact oq rfl fun ev w' v hR E pr=>by
      have e1:=E.was 4 _;exact exec_nd rfl e1 (h4.next hR).1
    ·refine OpOk.call rfl fun ev w' v hR E pr=>?_
     have e1:=E.eq pr 0 170;refine⟨12,#[ndV n ⟨lo4,lc4,vo4,vc4,no4,nc4,mo4,mc4⟩],by simp[go_sem,e1,E.fn],(nodeOk_any (n) ⟨lo4,lc4,vo4,vc4,no4,nc4,mo4,mc4⟩ hz4 aL aE aO w' (hG.next (RB.trans _ _ _ hB hR)) (h4.next hR).2).mono ?_⟩;rintro e9 w9 ⟨rfl,hb9⟩;rw[hBt];exact⟨_,rfl,hb9,rfl⟩
    ·exact oq rfl fun ev w' v hR E pr=>by
      have e1:=E.eq pr 1 171;simp[go_sem,e1]
    ·exact OpOk.sGet RB.refl 2 172 true (fun _ _ h=>h) _ (fun _=>rfl) fun ev w' v hR E pr=>by
      have e1:=E.was 4 _;simp[go_sem,e1]
    ·exact OpOk.sGet RB.refl 2 172 true (fun _ _ h=>h) _ (fun _=>rfl) fun ev w' v hR E pr=>by
      have e1:=E.eq pr 3 173;have cc:=(h4.next hR).1.cell (j:=2) (by omega);simp[lf]at cc;simp[go_sem,cc,e1]
    ·exact OpOk.sGet RB.refl 2 172 true (fun _ _ h=>h) _ (fun _=>rfl) fun ev w' v hR E pr=>by
      have e1:=E.was 3 _;simp[go_sem,e1]
    ·exact OpOk.sGet RB.refl 2 172 true (fun _ _ h=>h) _ (fun _=>rfl) fun ev w' v hR E pr=>by
      have e1:=E.eq pr 5 175;have cc:=(h3.next hR).1.cell (j:=2) (by omega);simp[lf]at cc;simp[go_sem,cc,e1]
    ·exact OpOk.sGet RB.refl 2 172 true (fun _ _ h=>h) _ (fun _=>rfl) fun ev w' v hR E pr=>by
      have e1:=E.eq pr 6 176;simp[go_sem,E.con,hw3,e1]
    ·exact OpOk.sGet RB.refl 2 172 true (fun _ _ h=>h) _ (fun _=>rfl) fun ev w' v hR E pr=>by
      have e1:=E.eq pr 4 174;have e2:=E.eq pr 7 177;simp[go_sem,hne,e1,e2]
    ·exact OpOk.sGet RB.refl 2 172 true (fun _ _ h=>h) _ (fun _=>rfl) fun ev w' v hR E pr=>by
      have e1:=E.eq pr 8 178;simp[go_sem,e1]
    ·exact OpOk.never 9 179 true (fun _ _ h=>.inl h) (fun _=>rfl)
    ·exact OpOk.never 9 179 true (fun _ _ h=>.inl h) (fun _=>rfl)
    ·exact OpOk.never 9 179 true (fun _ _ h=>.inl h) (fun _=>rfl)
    ·exact OpOk.never 9 179 true (fun _ _ h=>.inl h) (fun _=>rfl)
    ·exact OpOk.never 9 179 true (fun _ _ h=>.inl h) (fun _=>rfl)
    ·exact OpOk.sGet RB.refl 2 172 true (fun _ _ h=>h) _ (fun _=>rfl) fun ev w' v hR E pr=>by
      have e1:=E.eq pr 9 179;have e2:=E.eq pr 14 184;simp[go_sem,E.con,e1,e2]
    ·exact OpOk.sGet RB.refl 2 172 true (fun _ _ h=>h) _ (fun _=>rfl) fun ev w' v hR E pr=>by
      have e1:=E.eq pr 15 185;simp[go_sem,e1]
    ·exact OpOk.sGet RB.refl 16 186 false (fun _ _ h=>h) _ (fun _=>rfl) fun ev w' v hR E pr=>by
      have e1:=E.was 4 _;exact exec_nd rfl e1 (h4.next hR).1
    ·exact OpOk.sGet RB.refl 16 186 false (fun _ _ h=>h) _ (fun _=>rfl) fun ev w' v hR E pr=>by
      have e1:=E.was 3 _;exact exec_nd rfl e1 (h3.next hR).1
    ·refine OpOk.sCall 16 186 false (fun _ _ h=>h) fun ev w' v hR E pr=>?_
     have e1:=E.eq pr 17 187;have e2:=E.eq pr 18 188;refine⟨9,#[ndV n ⟨lo4,lc4,vo4,vc4,no4,nc4,mo4,mc4⟩,ndV n ⟨lo3,lc3,vo3,vc3,no3,nc3,mo3,mc3⟩],by simp[go_sem,e1,e2,E.fn],(likeNode_same (n) ⟨lo4,lc4,vo4,vc4,no4,nc4,mo4,mc4⟩ ⟨lo3,lc3,vo3,vc3,no3,nc3,mo3,mc3⟩ hfN.1 hfN.2.1 hfN.2.2.1 hfN.2.2.2 w' (h4.next hR).2 (h3.next hR).2).mono ?_⟩;rintro e9 w9 ⟨rfl,hb9⟩;exact⟨_,rfl,hb9,rfl⟩
    ·exact OpOk.sGet RB.refl 16 186 false (fun _ _ h=>h) _ (fun _=>rfl) fun ev w' v hR E pr=>by
      have e1:=E.eq pr 19 189;simp[go_sem,e1]
    ·exact OpOk.sGet RB.refl 20 190 true (fun _ _ h=>h) _ (fun _=>rfl) fun ev w' v hR E pr=>by
      have e1:=E.was 5 _;simp[go_sem,e1]
    ·exact OpOk.sGet RB.refl 20 190 true (fun _ _ h=>h) _ (fun _=>rfl) fun ev w' v hR E pr=>by
      have e1:=E.eq pr 21 191;simp[go_sem,e1]
    ·exact OpOk.sGet RB.refl 20 190 true (fun _ _ h=>h) _ (fun _=>rfl) fun ev w' v hR E pr=>by
      have e1:=E.eq pr 22 192;simp[go_sem,E.con,e1]
    ·exact OpOk.sGet RB.refl 16 186 false (fun _ _ h=>h) _ (fun _=>rfl) fun ev w' v hR E pr=>by
      have e1:=E.eq pr 20 190;have e2:=E.eq pr 23 193;simp[go_sem,E.con,e1,e2]
    ·exact OpOk.sGet RB.refl 2 172 true (fun _ _ h=>h) _ (fun _=>rfl) fun ev w' v hR E pr=>by
      have e1:=E.eq pr 16 186;have e2:=E.eq pr 24 194;simp[go_sem,E.con,e1,e2]
    ·exact oq rfl fun ev w' v hR E pr=>by
      have e1:=E.eq pr 2 172;have e2:=E.eq pr 25 195;simp[go_sem,E.con,e1,e2]
    ·exact oq rfl fun ev w' v hR E pr=>by
      have e1:=E.eq pr 26 196;simp[go_sem,e1]
   intro v V22 hR hp;obtain⟨-,-,-,-,-,-,-,-,-,-,-,-,-,-,-,-,-,-,-,-,-,-,-,-,-,-,-,p27,-⟩:=hp;replace p27:v 27=.bool true:=p27;simp only[putL,Nat.zero_add,Nat.reduceAdd,p27,Act.put,List.setIfInBounds_toArray,List.set_cons_zero,List.set_cons_succ];clear p27;replace hB:=RB.trans _ _ _ hB hR;replace h3:=BxLw.next h3 hR;replace h4:=BxLw.next h4 hR;replace h8:=BxLw.next h8 hR;clear hR;refine hK0.out _ _ ?_;clear hK0;go_wp2;go_ret;exact⟨rfl,hB⟩
  ·have g1:=e1
   have g2:=e2;clear NA
   refine plain_all (by kernel_rfl) RB RB.refl RB.trans
    [isV (ndV (tmN n) ⟨lo4,lc4,vo4,vc4,no4,nc4,mo4,mc4⟩),isV (.bool true),isV (.bool true),isV (.pointer (some ⟨b4,2,none⟩)),isV (.int .i64 (tmN n).term),isV (.pointer (some ⟨b3,2,none⟩)),isV (.int .i64 n.term),isV (.int .i64 (n.term+1)),isV (.bool true),isV (.bool true),isV (.pointer (some ⟨b4,3,none⟩)),isV (.int .i64 (tmN n).vote),isV (.pointer (some ⟨b3,0,none⟩)),isV (.int .i64 n.id),isV (.bool true),isV (.bool true),isV (.bool true),isV undef,isV undef,isV undef,isV undef,isV undef,isV undef,isV undef,isV undef,isV (.bool true),isV (.bool true),isV (.bool true)]
    ⟨isV.rb,isV.rb,isV.rb,isV.rb,isV.rb,isV.rb,isV.rb,isV.rb,isV.rb,isV.rb,isV.rb,isV.rb,isV.rb,isV.rb,isV.rb,isV.rb,isV.rb,isV.rb,isV.rb,isV.rb,isV.rb,isV.rb,isV.rb,isV.rb,isV.rb,isV.rb,isV.rb,isV.rb,trivial⟩ rfl ?_ ?_
   ·refine⟨?_,?_,?_,?_,?_,?_,?_,?_,?_,?_,?_,?_,?_,?_,?_,?_,?_,?_,?_,?_,?_,?_,?_,?_,?_,?_,?_,?_,trivial⟩
    ·exact oq rfl fun ev w' v hR E pr=>by
      have e1:=E.was 4 _;exact exec_nd rfl e1 (h4.next hR).1
    ·refine OpOk.call rfl fun ev w' v hR E pr=>?_
     have e1:=E.eq pr 0 170;refine⟨12,#[ndV (tmN n) ⟨lo4,lc4,vo4,vc4,no4,nc4,mo4,mc4⟩],by simp[go_sem,e1,E.fn],(nodeOk_any (tmN n) ⟨lo4,lc4,vo4,vc4,no4,nc4,mo4,mc4⟩ hz4 aL aE aO w' (hG.next (RB.trans _ _ _ hB hR)) (h4.next hR).2).mono ?_⟩;rintro e9 w9 ⟨rfl,hb9⟩;rw[hBt];exact⟨_,rfl,hb9,rfl⟩
    ·exact oq rfl fun ev w' v hR E pr=>by
      have e1:=E.eq pr 1 171;simp[go_sem,e1]
    ·exact OpOk.sGet RB.refl 2 172 true (fun _ _ h=>h) _ (fun _=>rfl) fun ev w' v hR E pr=>by
      have e1:=E.was 4 _;simp[go_sem,e1]
    ·exact OpOk.sGet RB.refl 2 172 true (fun _ _ h=>h) _ (fun _=>rfl) fun ev w' v hR E pr=>by
      have e1:=E.eq pr 3 173;have cc:=(h4.next hR).1.cell (j:=2) (by omega);simp[lf]at cc;simp[go_sem,cc,e1]
    ·exact OpOk.sGet RB.refl 2 172 true (fun _ _ h=>h) _ (fun _=>rfl) fun ev w' v hR E pr=>by
      have e1:=E.was 3 _;simp[go_sem,e1]
    ·exact OpOk.sGet RB.refl 2 172 true (fun _ _ h=>h) _ (fun _=>rfl) fun ev w' v hR E pr=>by
      have e1:=E.eq pr 5 175;have cc:=(h3.next hR).1.cell (j:=2) (by omega);simp[lf]at cc;simp[go_sem,cc,e1]
    ·exact OpOk.sGet RB.refl 2 172 true (fun _ _ h=>h) _ (fun _=>rfl) fun ev w' v hR E pr=>by
      have e1:=E.eq pr 6 176;simp[go_sem,E.con,hw3,e1]
    ·exact OpOk.sGet RB.refl 2 172 true (fun _ _ h=>h) _ (fun _=>rfl) fun ev w' v hR E pr=>by
      have e1:=E.eq pr 4 174;have e2:=E.eq pr 7 177;simp[go_sem,g1,e1,e2]
    ·exact OpOk.sGet RB.refl 2 172 true (fun _ _ h=>h) _ (fun _=>rfl) fun ev w' v hR E pr=>by
      have e1:=E.eq pr 8 178;simp[go_sem,e1]
    ·exact OpOk.sGet RB.refl 9 179 true (fun _ _ h=>h) _ (fun _=>rfl) fun ev w' v hR E pr=>by
      have e1:=E.was 4 _;simp[go_sem,e1]
    ·exact OpOk.sGet RB.refl 9 179 true (fun _ _ h=>h) _ (fun _=>rfl) fun ev w' v hR E pr=>by
      have e1:=E.eq pr 10 180;have cc:=(h4.next hR).1.cell (j:=3) (by omega);simp[lf]at cc;simp[go_sem,cc,e1]
    ·exact OpOk.sGet RB.refl 9 179 true (fun _ _ h=>h) _ (fun _=>rfl) fun ev w' v hR E pr=>by
      have e1:=E.was 3 _;simp[go_sem,e1]
    ·exact OpOk.sGet RB.refl 9 179 true (fun _ _ h=>h) _ (fun _=>rfl) fun ev w' v hR E pr=>by
      have e1:=E.eq pr 12 182;have cc:=(h3.next hR).1.cell (j:=0) (by omega);simp[lf]at cc;simp[go_sem,cc,e1]
    ·exact OpOk.sGet RB.refl 9 179 true (fun _ _ h=>h) _ (fun _=>rfl) fun ev w' v hR E pr=>by
      have e1:=E.eq pr 11 181;have e2:=E.eq pr 13 183;simp[go_sem,g2,e1,e2]
    ·exact OpOk.sGet RB.refl 2 172 true (fun _ _ h=>h) _ (fun _=>rfl) fun ev w' v hR E pr=>by
      have e1:=E.eq pr 9 179;have e2:=E.eq pr 14 184;simp[go_sem,E.con,e1,e2]
    ·exact OpOk.sGet RB.refl 2 172 true (fun _ _ h=>h) _ (fun _=>rfl) fun ev w' v hR E pr=>by
      have e1:=E.eq pr 15 185;simp[go_sem,e1]
    ·exact OpOk.never 16 186 false (fun _ _ h=>.inl h) (fun _=>rfl)
    ·exact OpOk.never 16 186 false (fun _ _ h=>.inl h) (fun _=>rfl)
    ·exact OpOk.never 16 186 false (fun _ _ h=>.inl h) (fun _=>rfl)
    ·exact OpOk.never 16 186 false (fun _ _ h=>.inl h) (fun _=>rfl)
    ·exact OpOk.never 20 190 true (fun _ _ h=>.inr h) (fun _=>rfl)
    ·exact OpOk.never 20 190 true (fun _ _ h=>.inr h) (fun _=>rfl)
    ·exact OpOk.never 20 190 true (fun _ _ h=>.inr h) (fun _=>rfl)
    ·exact OpOk.never 16 186 false (fun _ _ h=>.inl h) (fun _=>rfl)
    ·exact OpOk.sGet RB.refl 2 172 true (fun _ _ h=>h) _ (fun _=>rfl) fun ev w' v hR E pr=>by
      have e1:=E.eq pr 16 186;have e2:=E.eq pr 24 194;simp[go_sem,E.con,e1,e2]
    ·exact oq rfl fun ev w' v hR E pr=>by
      have e1:=E.eq pr 2 172;have e2:=E.eq pr 25 195;simp[go_sem,E.con,e1,e2]
    ·exact oq rfl fun ev w' v hR E pr=>by
      have e1:=E.eq pr 26 196;simp[go_sem,e1]
   intro v V22 hR hp;obtain⟨-,-,-,-,-,-,-,-,-,-,-,-,-,-,-,-,-,-,-,-,-,-,-,-,-,-,-,p27,-⟩:=hp;replace p27:v 27=.bool true:=p27;simp only[putL,Nat.zero_add,Nat.reduceAdd,p27,Act.put,List.setIfInBounds_toArray,List.set_cons_zero,List.set_cons_succ];clear p27;replace hB:=RB.trans _ _ _ hB hR;replace h3:=BxLw.next h3 hR;replace h4:=BxLw.next h4 hR;replace h8:=BxLw.next h8 hR;clear hR;refine hK0.out _ _ ?_;clear hK0;go_wp2;go_ret;exact⟨rfl,hB⟩
end
end Go.Proofs.YtbabakgjkloabaaGreatDoor
