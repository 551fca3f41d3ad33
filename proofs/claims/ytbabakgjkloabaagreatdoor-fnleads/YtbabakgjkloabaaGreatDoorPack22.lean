/-
  Helpers: Cl4, DoA, CurT, DrawLg, DrawB.
-/
import Derived.Test.YtbabakgjkloabaaGreatDoorPack2
import Derived.Test.YtbabakgjkloabaaGreatDoorPack8
import Derived.Test.YtbabakgjkloabaaGreatDoorPack1
import Derived.Test.YtbabakgjkloabaaGreatDoorPack21
import Derived.Test.YtbabakgjkloabaaGreatDoorPack16
import Derived.Test.YtbabakgjkloabaaGreatDoorPack17
import Derived.Test.YtbabakgjkloabaaGreatDoorPack18
set_option linter.unusedVariables false
set_option linter.unusedSimpArgs false
namespace Go.Proofs.YtbabakgjkloabaaGreatDoor
section
open Go Go.RowKit
attribute [local go_sem ↓] Go.wp_at_zero Go.wp_at_succ
theorem rb_ch {u v w:World} (h:RB u v) (k:Ch u.heap.size v w):RB u w:=
 ⟨k.os.trans h.os,k.tape.trans h.tape,k.output.trans h.output,Nat.le_trans h.size k.size,fun j hj=>(k.block j (Nat.lt_of_lt_of_le hj h.size) (.inl hj)).trans (h.block j hj)⟩
def CpV (H:Nat) (n:Nd) (v:Value) (w:World):Prop:=∃ s,v=ndV n s/\NdO w H n s
theorem CpV.rb {H:Nat} {n:Nd} (v:Value) (w w':World) (h:CpV H n v w) (hb:RB w w'):CpV H n v w':=by
 obtain⟨s,e,h⟩:=h;exact⟨s,e,h.next hb⟩
theorem CpV.gr {H x:Nat} {n:Nd} {v:Value} {w w':World} (h:CpV H n v w) (hg:w.grownBy w' (some x)) (hx:Typed w x 27):CpV H n v w':=by
 obtain⟨s,e,h⟩:=h;exact⟨s,e,h.gr hg (fun y e=>by cases e;exact hx) (by decide) (by decide)⟩
def RcV (H:Nat) (n:Nd) (l:List Ms) (v:Value) (w:World):Prop:=∃ s u,v=.tuple #[ndV n s,u]/\NdO w H n s/\NetV H l u w
theorem RcV.rb {H:Nat} {n:Nd} {l:List Ms} (v:Value) (w w':World) (h:RcV H n l v w) (hb:RB w w'):RcV H n l v w':=by
 obtain⟨s,u,e,h,k⟩:=h;exact⟨s,u,e,h.next hb,NetV.rb _ _ _ k hb⟩
theorem RcV.gr {H x:Nat} {n:Nd} {l:List Ms} {v:Value} {w w':World} (h:RcV H n l v w) (hg:w.grownBy w' (some x)) (hx:Typed w x 27):RcV H n l v w':=by
 obtain⟨s,u,e,h,k⟩:=h;exact⟨s,u,e,h.gr hg (fun y e=>by cases e;exact hx) (by decide) (by decide),NetV.gr k hg hx⟩
def BxN (H:Nat) (v:Value) (w:World):Prop:=∃ b,v=.pointer (some ⟨b,0,none⟩)/\H<=b/\NdB w b nd0 ns0
theorem BxN.rb {H:Nat} (v:Value) (w w':World) (h:BxN H v w) (hb:RB w w'):BxN H v w':=by
 obtain⟨b,e,h1,h⟩:=h;exact⟨b,e,h1,VHas.next h hb⟩
def BxS (H:Nat) (n:Nd) (v:Value) (w:World):Prop:=∃ b s,v=.pointer (some ⟨b,0,none⟩)/\H<=b/\NdB w b n s/\NdO w H n s
theorem BxS.rb {H:Nat} {n:Nd} (v:Value) (w w':World) (h:BxS H n v w) (hb:RB w w'):BxS H n v w':=by
 obtain⟨b,s,e,h1,h,k⟩:=h;exact⟨b,s,e,h1,VHas.next h hb,k.next hb⟩
def TurnN (H:Nat) (u v:World):Prop:=∃ b,u.grownBy v (some b)/\Typed u b 27/\H<=b
def ClT (w:World) (b base k:Nat) (ao:Option Addr) (cap:Nat):Prop:=∃ l,ClS w b base l ao cap/\l.length=k
theorem blw_trans {B:Nat} {u v w:World} (h:Below B u v) (k:Below B v w) (hB:B<=u.heap.size):Below B u w:=⟨k.os.trans h.os,k.tape.trans h.tape,k.output.trans h.output,Nat.le_trans h.size k.size,fun j hj=>(k.block j hj).trans (h.block j hj)⟩
theorem ld_len {n:Nd} (h:Bk n):(ldL n).length<=5:=by
 have e:=(ldA_same n).2.1;have hp:=h.p;have h1:=othL_len (ldN n).id (fun k=>appM (ldN n) (nxtI (ldN n) k) k) (ldN n).peers.toNat;have h2:(ldN n).peers=n.peers:=e;unfold ldL beatL;omega
theorem rcvL_len {n:Nd} (h:OkN n) (m:Ms):(rcvL n m).length<=1000:=by
 unfold rcvL
 split
 ·next hF=>
  simp only[forB,srvB,Bool.and_eq_true,decide_eq_true_eq]at hF;obtain⟨_,_,_,_,_,_,ht2,_,_⟩:=hF;have h1:=(h.rc1 m ht2).1;unfold rkL
  split
  ·simp
  ·split
   ·unfold vdL
    split
    ·split
     ·have b2:Bk (vd1 (rc1 n m) m.frm):=⟨h1.b.p,h1.b.i,h1.b.t,h1.b.v,h1.b.l,h1.b.a,h1.b.c⟩
      have:=ld_len b2;omega
     ·simp
    ·simp
   ·split
    ·unfold apnL
     split
     ·simp
     ·split
      ·simp
      ·split<;>simp
    ·simp
 ·simp
theorem inB_nat {x:Int} {k:Nat} (h:inB x 0 ((k:Int)-1)=true):∃ t:Nat,x=(t:Int)/\t<k:=by
 rw[inB_dec]at h;have:=of_decide_eq_true h;exact⟨x.toNat,by omega,by omega⟩
set_option maxRecDepth 100000 in
set_option maxHeartbeats 16000000 in
theorem l12Deliver_any (b base:Nat) (l:List Nq) (q:List Mq) (ao:Option Addr) (cap:Nat) (eo:Option Addr) (ec:Nat) (i:Nat) (w:World) (hbs:base<=w.heap.size) (hbb:base<=b) (hC:ClB w b base l q ao cap eo ec) (hP:ClP l q) (hi:i<q.length):Calls Tryz.prog 97 #[.pointer (some ⟨b,0,none⟩),.int .i64 (i:Int)] w fun e w'=>e=.returned (.tuple #[])/\ClT w' b base l.length ao cap/\Below base w w':=by
 obtain⟨ge,ege,hgeb,hgv⟩:=GOwn.vhas hC.m.o (by omega);subst ege;obtain⟨g,eg,hgb,hnv⟩:=GOwn.vhas hC.n (by have:=hP.len;omega);subst eg;have hq200:=hP.net;have hl5:=hP.len;obtain⟨z,hz⟩:∃ z,q[i]?=some z:=⟨q[i],by simp[hi]⟩
 have hzm:z∈q:=List.mem_of_getElem? hz;have hzw:=hP.ms z hzm;have hil:(i:Int)<(q.length:Int):=by omega
 have hi0:(0:Int)<=(i:Int):=by omega
 have hrow:=GOwn.lrow hC.m.o (nlc_len q);have c0:=VHas.cell hC.x (j:=0) (by omega);have c1:=VHas.cell hC.x (j:=1) (by omega);simp[lf]at c0 c1;have g0:=nlc_row hrow hz 0 (by omega);have g1:=nlc_row hrow hz 1 (by omega);have g2:=nlc_row hrow hz 2 (by omega);have g3:=nlc_row hrow hz 3 (by omega);have g4:=nlc_row hrow hz 4 (by omega);have g5:=nlc_row hrow hz 5 (by omega);have g6:=nlc_row hrow hz 6 (by omega);have g7:=nlc_row hrow hz 7 (by omega);have g8:=nlc_row hrow hz 8 (by omega);simp[lf]at g0 g1 g2 g3 g4 g5 g6 g7 g8;clear hrow hgv hnv;have hal:=RB.alloc w (.cells (msL ms0 none 0).toArray 29);have vM:=msB_new w ms0 none 0;have hC1:=hC.next hal;have hzE1:=(hC.m.e z hzm).next hal;go_enter Tryz.func97,Tryz.ntmps97
 go_wp2_with (first|((with_reducible refine wB 29 (.tmp 4) (.tmp 13) w.heap.size (msL z.m z.eo z.ec) vM ?_);intro W1 vM1 gM)|fail)
 clear g0 g1 g2 g3 g4 g5 g6 g7 g8 c0 c1;have hTm:∀ x,some w.heap.size=some x->Typed (w.alloc (.cells (msL ms0 none 0).toArray 29)) x 29:=fun x e=>by cases e;exact VHas.typed vM
 have hR1:RB w W1:=gr_rb hal gM nl;replace hC1:=hC.next hR1;replace hzE1:=(hC.m.e z hzm).next hR1;clear vM gM hTm hal hC;obtain⟨bm,hbm⟩:∃ bm,bm=w.heap.size:=⟨_,rfl⟩
 rw[<-hbm]at vM1 ⊢;clear hbm;have hd:RB W1 W1.drew:=(Below.refl _ _).drew;have hD:=hC1.next hd;have hM:MsB W1.drew bm z.m z.eo z.ec:=VHas.next vM1 hd;have hzE:=hzE1.next hd;have hbl:Below base w W1.drew:=blw_rb (blw_rb (Below.refl _ _) hbs hR1) hbs hd;have hbd:base<=W1.drew.heap.size:=Nat.le_trans hbs hbl.size;have hqc:q.length<=ec:=GOwn.cap hC1.m.o;clear hC1 vM1 hzE1 hR1 hd;have hw28:IntKind.i64.wrap ((i:Int)+1)=((i:Int)+1):=by rw[IntKind.wrap_i64];omega
 refine region_mid (by kernel_rfl) (by kernel_rfl) (by kernel_rfl) 16 [1,2,3,4,5,6,7,8,9,10,11,12,13,14,15] [0,17,18] (by kernel_rfl) (by kernel_rfl) (fun _ _=>True)
  (fun W5=>RB W1.drew W5) (fun a9 b9 h hb=>RB.trans _ _ _ h hb)
  [isV (.pointer (some ⟨b,0,none⟩)),LE W1.drew.heap.size 29,isV (.pointer (some ⟨b,0,none⟩)),isV (.pointer (some ⟨b,0,none⟩)),isV (.pointer (some ⟨b,1,none⟩)),isV (.slice (some ⟨ge,0,none⟩) q.length ec),isV (.int .i64 (i:Int)),SlM (q.take i),NtH W1.drew.heap.size base (q.take i),isV (.pointer (some ⟨b,0,none⟩)),isV (.pointer (some ⟨b,0,none⟩)),isV (.pointer (some ⟨b,1,none⟩)),isV (.slice (some ⟨ge,0,none⟩) q.length ec),isV (.int .i64 (i:Int)),isV (.int .i64 ((i:Int)+1)),SlM (q.drop (i+1)),NtH W1.drew.heap.size base (q.take i++q.drop (i+1)),isV (.pointer (some ⟨b,0,none⟩)),isV (.pointer (some ⟨b,1,none⟩))]
  ⟨isV.rb,LE.rb,isV.rb,isV.rb,isV.rb,isV.rb,isV.rb,SlM.rb,NtH.rb,isV.rb,isV.rb,isV.rb,isV.rb,isV.rb,isV.rb,SlM.rb,NtH.rb,isV.rb,isV.rb,trivial⟩ rfl ?_ ?_ ?_ ?_ _ rfl rfl rfl
  (fun v9 W9=>∃ a c,ClB W9 b base l (q.take i++q.drop (i+1)) (some ⟨g,0,none⟩) cap a c/\(MsB W9 bm z.m z.eo z.ec/\OwE W9 base z.eo z.ec z.m.ents)/\Below base w W9) ?_ ?_
 ·intro i hi v w1 w2 h hx
  simp only[List.mem_cons,List.not_mem_nil,or_false]at hi;rcases hi with rfl|rfl|rfl<;>exact h
 ·intro i hi o ho
  simp only[List.mem_cons,List.not_mem_nil,or_false]at hi;rcases hi with rfl|rfl|rfl|rfl|rfl|rfl|rfl|rfl|rfl|rfl|rfl|rfl|rfl|rfl|rfl<;>(obtain rfl:=Option.some.inj ho)
  ·refine OpOk.val rfl fun ev w9 v hR E pr=>?_
   exact⟨.slice (some ⟨w9.heap.size,0,none⟩) 0 0,w9.alloc (.cells #[] 29),(by (simp[go_sem])<;>rfl),RB.alloc _ _,LE.new w9 _ 29 hR.size⟩
  ·exact oq rfl fun ev w9 v hR E pr=>by
    have e1:=E.was 0 _;simp[go_sem,e1]
  ·exact oq rfl fun ev w9 v hR E pr=>by
    have e1:=E.eq pr 2 16;simp[go_sem,e1]
  ·exact oq rfl fun ev w9 v hR E pr=>by
    have e1:=E.eq pr 3 17;simp[go_sem,e1]
  ·exact oq rfl fun ev w9 v hR E pr=>by
    have e1:=E.eq pr 4 18;have cc:=(hD.x.next hR).cell (j:=1) (by omega);simp[lf]at cc;simp[go_sem,cc,e1]
  ·exact oq rfl fun ev w9 v hR E pr=>by
    have e1:=E.was 1 _;simp[go_sem,e1]
  ·refine OpOk.val rfl fun ev w9 v hR E pr=>?_
   have e1:=E.eq pr 5 19;have e2:=E.eq pr 6 20;exact toM_ok rfl e1 e2 (by omega) hqc ((GOwn.lrow hD.m.o (nlc_len q)).next hR)
  ·refine OpOk.val rfl fun ev w9 v hR E pr=>?_
   have e1:LE W1.drew.heap.size 29 (ev (.tmp 15)) w9:=E.get pr 1 15;have e2:SlM (q.take i) (ev (.tmp 21)) w9:=E.get pr 7 21;exact catM_ok rfl e1 e2 (fun z h=>(hD.m.e z (List.mem_of_mem_take h)).next hR) (by simp;omega) hR.size
  ·exact oq rfl fun ev w9 v hR E pr=>by
    have e1:=E.was 0 _;simp[go_sem,e1]
  ·exact oq rfl fun ev w9 v hR E pr=>by
    have e1:=E.eq pr 9 23;simp[go_sem,e1]
  ·exact oq rfl fun ev w9 v hR E pr=>by
    have e1:=E.eq pr 10 24;simp[go_sem,e1]
  ·exact oq rfl fun ev w9 v hR E pr=>by
    have e1:=E.eq pr 11 25;have cc:=(hD.x.next hR).cell (j:=1) (by omega);simp[lf]at cc;simp[go_sem,cc,e1]
  ·exact oq rfl fun ev w9 v hR E pr=>by
    have e1:=E.was 1 _;simp[go_sem,e1]
  ·exact oq rfl fun ev w9 v hR E pr=>by
    have e1:=E.eq pr 13 27;simp[go_sem,E.con,hw28,e1]
  ·refine OpOk.val rfl fun ev w9 v hR E pr=>?_
   have e1:=E.eq pr 12 26;have e2:=E.eq pr 14 28;exact fromM_ok rfl e1 e2 (by omega) hqc ((GOwn.lrow hD.m.o (nlc_len q)).next hR)
 ·intro i h1 h2 h3 o ho
  have hc3:i=0\/i=17\/i=18:=by
   simp at h1 h3;omega
  rcases hc3 with rfl|rfl|rfl<;>(obtain rfl:=Option.some.inj ho)
  ·exact LateOk.get _ (fun _=>rfl) fun ev w9 v hR E pr=>by
    have e1:=E.was 0 _;simp[go_sem,E.con,e1]
  ·exact LateOk.get _ (fun _=>rfl) fun ev w9 v hR E pr=>by
    have e1:ev (.tmp 14)=.pointer (some ⟨b,0,none⟩):=E.kept pr 0 14;simp[go_sem,E.con,e1]
  ·exact LateOk.get _ (fun _=>rfl) fun ev w9 v hR E pr=>by
    have e1:ev (.tmp 31)=.pointer (some ⟨b,0,none⟩):=E.kept pr 17 31;simp[go_sem,E.con,e1]
 ·intro o ho
  obtain rfl:=Option.some.inj ho;refine MidOk.val fun ev w9 v hR E pr=>?_
  have e1:NtH W1.drew.heap.size base (q.take i) (ev (.tmp 22)) w9:=E.get pr 8 22;have e2:SlM (q.drop (i+1)) (ev (.tmp 29)) w9:=E.get pr 15 29;exact appM_mid rfl e1 e2 (fun z h=>(hD.m.e z (List.mem_of_mem_drop h)).next hR) (by simp;omega) hR
 ·rintro ev w9 v hP9 E hk
  have k1:=hk 18 (by simp);have k2:=hk 16 (by simp);have E1:=E.at_ 18 32 rfl (by kernel_rfl) (Nat.le_of_ble_eq_true (by kernel_rfl));have E2:=E.at_ 16 30 rfl (by kernel_rfl) (Nat.le_of_ble_eq_true (by kernel_rfl));obtain⟨a,c,e1,hN9,hE9⟩:NtH W1.drew.heap.size base (q.take i++q.drop (i+1)) (v 16) w9:=k2;have e2:v 18=.pointer (some ⟨b,1,none⟩):=k1;rw[e2]at E1;rw[e1]at E2;have h9:=hD.next hP9;have g9:=gr_setCell w9 b 1 (.slice a (q.take i++q.drop (i+1)).length c);have hT:∀ x,some b=some x->Typed w9 x 54:=fun x e=>by cases e;exact VHas.typed h9.x
  exact⟨_,exec_cell rfl E1 E2 h9.x (by omega) (by kernel_rfl) rfl (oneV rfl),fun _ _=>⟨a,c,⟨(VHas.set h9.x 1 _).congr (fun j hj=>by
   have:j=0\/j=1:=by omega
   rcases this with rfl|rfl<;>simp[lf]),GOwn.gr h9.n g9 hT (by decide),⟨GOwn.from (GOwn.gr hN9 g9 hT (by decide)) hbd,fun y hy=>(hE9 y hy).gr g9 hT (by decide)⟩,fun y hy=>(h9.nl y hy).gr g9 hT (by decide) (by decide)⟩,⟨VHas.gr (VHas.next hM hP9) g9 hT (by decide),(hzE.next hP9).gr g9 hT (by decide)⟩,blw_row (blw_rb hbl hbs hP9) hbs g9 (fun x e=>by cases e;exact hbb)⟩⟩
 ·intro v8 W8 hF8
  simp only[putL,Nat.zero_add,Nat.reduceAdd,Act.put,List.setIfInBounds_toArray,List.set_cons_zero,List.set_cons_succ];obtain⟨a9,c9,hC2,⟨hM2,hzE2⟩,hbl2⟩:=hF8;have hP2:=hP.less i;clear hD hM hzE hbl hbd hqc hP hil hi0 hz hzm;generalize (q.take i++q.drop (i+1))=q9 at hC2 hP2
  go_wp2_with fail
  have hd:RB W8 W8.drew:=(Below.refl _ _).drew;have hD:=hC2.next hd;have hM:MsB W8.drew bm z.m z.eo z.ec:=VHas.next hM2 hd;have hzE:=hzE2.next hd;have hbl:Below base w W8.drew:=blw_rb hbl2 hbs hd;clear hC2 hM2 hzE2 hbl2 hd;have hw40:IntKind.i64.wrap ((l.length:Int)-1)=((l.length:Int)-1):=by rw[IntKind.wrap_i64];omega
  obtain⟨b41,qb41⟩:∃ b:Bool,b=(inB (z.m.to) (0) (((l.length:Int)-1))):=⟨_,rfl⟩
  obtain⟨b42,qb42⟩:∃ b:Bool,b=(!b41):=⟨_,rfl⟩
  refine region_all (by kernel_rfl) (by kernel_rfl) RB RB.refl RB.trans
   [isV (.pointer (some ⟨bm,3,none⟩)),isV (.int .i64 z.m.to),isV (.pointer (some ⟨b,0,none⟩)),isV (.pointer (some ⟨b,0,none⟩)),isV (.pointer (some ⟨b,0,none⟩)),isV (.slice (some ⟨g,0,none⟩) l.length cap),isV (.int .i64 (l.length:Int)),isV (.int .i64 ((l.length:Int)-1)),isV (.bool b41),isV (.bool b42)]
   ⟨isV.rb,isV.rb,isV.rb,isV.rb,isV.rb,isV.rb,isV.rb,isV.rb,isV.rb,isV.rb,trivial⟩ rfl ?_ ?_
  ·refine⟨?_,?_,?_,?_,?_,?_,?_,?_,?_,?_,trivial⟩
   ·exact oq rfl fun ev w' v hR E pr=>by
     have e1:=E.was 4 _;simp[go_sem,e1]
   ·exact oq rfl fun ev w' v hR E pr=>by
     have e1:=E.eq pr 0 33;have cc:=(hM.next hR).cell (j:=3) (by omega);simp[lf]at cc;simp[go_sem,cc,e1]
   ·exact oq rfl fun ev w' v hR E pr=>by
     have e1:=E.was 0 _;simp[go_sem,e1]
   ·exact oq rfl fun ev w' v hR E pr=>by
     have e1:=E.eq pr 2 35;simp[go_sem,e1]
   ·exact oq rfl fun ev w' v hR E pr=>by
     have e1:=E.eq pr 3 36;simp[go_sem,e1]
   ·exact oq rfl fun ev w' v hR E pr=>by
     have e1:=E.eq pr 4 37;have cc:=(hD.x.next hR).cell (j:=0) (by omega);simp[lf]at cc;simp[go_sem,cc,e1]
   ·exact oq rfl fun ev w' v hR E pr=>by
     have e1:=E.eq pr 5 38;simp[go_sem,e1]
   ·exact oq rfl fun ev w' v hR E pr=>by
     have e1:=E.eq pr 6 39;simp[go_sem,E.con,hw40,e1]
   ·exact OpOk.ret _ (fun _=>rfl) fun ev w' v hR E pr=>by
     have e1:=E.eq pr 1 34;have e2:=E.eq pr 7 40;refine⟨40,#[.int .i64 z.m.to,.int .i64 0,.int .i64 ((l.length:Int)-1)],by simp[go_sem,gv,e1,e2,E.con,E.fn],?_⟩;rw[qb41];exact l1In_rb (z.m.to) (0) (((l.length:Int)-1)) _
   ·exact oq rfl fun ev w' v hR E pr=>by
     have e1:=E.eq pr 8 41;simp[go_sem,qb42,e1]
  ·intro v w' hR hp
   obtain⟨_,_,_,_,_,_,_,_,_,p9,_⟩:=hp;replace p9:v 9=.bool b42:=p9;simp only[putL,Nat.zero_add,Nat.reduceAdd,p9,Act.put,List.setIfInBounds_toArray,List.set_cons_zero,List.set_cons_succ];have hD2:=hD.next hR;have hM2:MsB w' bm z.m z.eo z.ec:=VHas.next hM hR;have hzE2:=hzE.next hR;have hbl2:=blw_rb hbl hbs hR;clear hD hM hzE hbl hR;rcases Bool.eq_false_or_eq_true (inB z.m.to 0 ((l.length:Int)-1)) with hto|hto
   rotate_left
   ·rw[qb42,qb41,hto]
    go_wp2;simp[bodyPost,results,Tryz.results97,go_sem];exact⟨⟨l,⟨_,_,_,hD2,hP2⟩,rfl⟩,hbl2⟩
   rw[qb42,qb41,hto];obtain⟨t,hto1,htL⟩:=inB_nat hto;clear qb42 qb41 hto;obtain⟨y,hy⟩:=nd_get htL;obtain⟨hyk,hyi,hyp,hyt⟩:=hP2.ok t y hy;have ht0:(0:Int)<=(t:Int):=by omega
   have htl:(t:Int)<(l.length:Int):=by omega
   have hyO0:=hD2.nl y (List.mem_of_getElem? hy);have hyz:NdZ y.n y.s:=hyk.zz hyt hyO0.K;replace hto1:Hid (z.m.to=(t:Int)):=hto1
   go_wp2_with fail
   replace hto1:=hto1.out;have hd:RB w' w'.drew:=(Below.refl _ _).drew;have hD:=hD2.next hd;have hM:MsB w'.drew bm z.m z.eo z.ec:=VHas.next hM2 hd;have hyO:=hyO0.next hd;have hzM:MsM w'.drew z.m z.eo z.ec:=⟨(hzE2.next hd).row,GOwn.cap hzE2⟩
   have hbl:Below base w w'.drew:=blw_rb hbl2 hbs hd;clear hD2 hM2 hyO0 hbl2 hd
   refine region_wr (by kernel_rfl) (by kernel_rfl) (by kernel_rfl) (fun W5=>RB w'.drew W5) (RB.refl _) (fun i=>if i=10 then Ch w'.drew.heap.size else if i=15 then TurnN w'.drew.heap.size else RB) [10,15]
    [isV (.pointer (some ⟨b,0,none⟩)),isV (.pointer (some ⟨b,0,none⟩)),isV (.pointer (some ⟨b,0,none⟩)),isV (.slice (some ⟨g,0,none⟩) l.length cap),isV (.pointer (some ⟨bm,3,none⟩)),isV (.int .i64 z.m.to),isV (.pointer (some ⟨g,t*10,none⟩)),isV (ndV y.n y.s),CpV w'.drew.heap.size y.n,isV (msV z.m z.eo z.ec),RcV w'.drew.heap.size (rcvN y.n z.m) (rcvL y.n z.m),RcV w'.drew.heap.size (rcvN y.n z.m) (rcvL y.n z.m),CpV w'.drew.heap.size (rcvN y.n z.m),NetV w'.drew.heap.size (rcvL y.n z.m),BxN w'.drew.heap.size,BxS w'.drew.heap.size (rcvN y.n z.m),NetV w'.drew.heap.size (rcvL y.n z.m)]
    [(8,10),(14,15)] [(15,14)] [(11,10),(12,10),(13,10),(15,10),(16,10)] (by kernel_rfl) (by kernel_rfl) ⟨isV.rb,isV.rb,isV.rb,isV.rb,isV.rb,isV.rb,isV.rb,isV.rb,CpV.rb,isV.rb,RcV.rb,RcV.rb,CpV.rb,NetV.rb,BxN.rb,BxS.rb,NetV.rb,trivial⟩ (fun i h=>by simp at h;simp[h]) ?_ ?_ ?_
   ·intro i hi j hj hne hx hd v w1 w2 hp hG hR
    simp only[List.mem_cons,List.not_mem_nil,or_false]at hi;rcases hi with rfl|rfl
    ·have hj2:j<17:=hj
     have hj3:j=0\/j=1\/j=2\/j=3\/j=4\/j=5\/j=6\/j=7\/j=8\/j=9\/j=10\/j=11\/j=12\/j=13\/j=14\/j=15\/j=16:=by omega
     rcases hj3 with rfl|rfl|rfl|rfl|rfl|rfl|rfl|rfl|rfl|rfl|rfl|rfl|rfl|rfl|rfl|rfl|rfl
     ·exact hp
     ·exact hp
     ·exact hp
     ·exact hp
     ·exact hp
     ·exact hp
     ·exact hp
     ·exact hp
     ·exact absurd rfl hx
     ·exact hp
     ·exact absurd rfl hne
     ·exact absurd (by simp) hd
     ·exact absurd (by simp) hd
     ·exact absurd (by simp) hd
     ·obtain⟨b5,e,h1,h2⟩:=hp
      exact⟨b5,e,h1,VHas.ch h2 hR (by decide) (by decide)⟩
     ·exact absurd (by simp) hd
     ·exact absurd (by simp) hd
    ·have hj2:j<17:=hj
     have hj3:j=0\/j=1\/j=2\/j=3\/j=4\/j=5\/j=6\/j=7\/j=8\/j=9\/j=10\/j=11\/j=12\/j=13\/j=14\/j=15\/j=16:=by omega
     rcases hj3 with rfl|rfl|rfl|rfl|rfl|rfl|rfl|rfl|rfl|rfl|rfl|rfl|rfl|rfl|rfl|rfl|rfl
     ·exact hp
     ·exact hp
     ·exact hp
     ·exact hp
     ·exact hp
     ·exact hp
     ·exact hp
     ·exact hp
     ·obtain⟨b5,hg,hT,_⟩:=hR
      exact CpV.gr hp hg hT
     ·exact hp
     ·obtain⟨b5,hg,hT,_⟩:=hR
      exact RcV.gr hp hg hT
     ·obtain⟨b5,hg,hT,_⟩:=hR
      exact RcV.gr hp hg hT
     ·obtain⟨b5,hg,hT,_⟩:=hR
      exact CpV.gr hp hg hT
     ·obtain⟨b5,hg,hT,_⟩:=hR
      exact NetV.gr hp hg hT
     ·exact absurd rfl hx
     ·exact absurd rfl hne
     ·obtain⟨b5,hg,hT,_⟩:=hR
      exact NetV.gr hp hg hT
   ·refine allEx_cons ?_ (allEx_cons ?_ (allEx_cons ?_ (allEx_cons ?_ (allEx_cons ?_ (allEx_cons ?_ (allEx_cons ?_ (allEx_cons ?_ (allEx_cons ?_ (allEx_cons ?_ (allEx_cons ?_ (allEx_cons ?_ (allEx_cons ?_ (allEx_cons ?_ (allEx_cons ?_ (allEx_cons ?_ (allEx_cons ?_ (allEx_nil)))))))))))))))))
    ·exact xq rfl rfl fun ev w9 v hG E pr=>by
      have e1:=E.was 0 _;simp[go_sem,e1]
    ·exact xq rfl rfl fun ev w9 v hG E pr=>by
      have e1:ev (.tmp 44)=.pointer (some ⟨b,0,none⟩):=E.tld pr 0 44;simp[go_sem,e1]
    ·exact xq rfl rfl fun ev w9 v hG E pr=>by
      have e1:ev (.tmp 45)=.pointer (some ⟨b,0,none⟩):=E.tld pr 1 45;simp[go_sem,e1]
    ·exact xq rfl rfl fun ev w9 v hG E pr=>by
      have e1:ev (.tmp 46)=.pointer (some ⟨b,0,none⟩):=E.tld pr 2 46;have cc:=(VHas.next hD.x hG).cell (j:=0) (by omega);simp[lf]at cc;simp[go_sem,cc,e1]
    ·exact xq rfl rfl fun ev w9 v hG E pr=>by
      have e1:=E.was 4 _;simp[go_sem,e1]
    ·exact xq rfl rfl fun ev w9 v hG E pr=>by
      have e1:ev (.tmp 48)=.pointer (some ⟨bm,3,none⟩):=E.tld pr 4 48;have cc:=(VHas.next hM hG).cell (j:=3) (by omega);simp[lf]at cc;simp[go_sem,cc,e1]
    ·exact xq rfl rfl fun ev w9 v hG E pr=>by
      have e1:ev (.tmp 47)=.slice (some ⟨g,0,none⟩) l.length cap:=E.tld pr 3 47;have e2:ev (.tmp 49)=.int .i64 z.m.to:=E.tld pr 5 49;simp[go_sem,hto1,ht0,htl,e1,e2]
    ·exact xq rfl rfl fun ev w9 v hG E pr=>by
      have e1:ev (.tmp 50)=.pointer (some ⟨g,t*10,none⟩):=E.tld pr 6 50;exact exec_ndAt rfl e1 (GOwn.next hD.n hG) hy
    ·exact ExOk.call rfl fun ev w9 v hG E pr=>by
      have e1:ev (.tmp 51)=ndV y.n y.s:=E.tld pr 7 51;refine⟨38,#[ndV y.n y.s],by simp[go_sem,e1,E.fn],?_⟩;refine (specCopy_any y.n y.s hyz w9 (hyO.next hG).M).mono ?_;rintro e w8 ⟨s',rfl,hO,hb⟩;exact⟨_,rfl,hb,RB.trans _ _ _ hG hb,s',rfl,hO.from hG.size⟩
    ·exact xq rfl rfl fun ev w9 v hG E pr=>by
      have e1:=E.was 4 _;exact exec_ms rfl e1 (VHas.next hM hG)
    ·exact ExOk.call rfl fun ev w9 v hG E pr=>by
      obtain⟨s',e1,hO⟩:CpV w'.drew.heap.size y.n (ev (.tmp 52)) w9:=E.tld pr 8 52;have e2:ev (.tmp 53)=msV z.m z.eo z.ec:=E.tld pr 9 53;refine⟨37,#[ndV y.n s',msV z.m z.eo z.ec],by simp[go_sem,e1,e2,E.fn],?_⟩;refine (specRecv_any y.n s' (hyk.zz hyt hO.K) z.m z.eo z.ec hzw.z hyk.B hzw.ix w'.drew.heap.size w9 hG.size hO (hzM.next hG)).mono ?_;rintro e w8 ⟨s,v2,rfl,h1,h2,h3⟩;exact⟨_,rfl,h3,rb_ch hG h3,s,v2,rfl,h1,NetV.from h2 hG.size⟩
    ·exact ExOk.val rfl fun ev w9 v hG E pr=>⟨ev (.tmp 54),w9,by simp[go_sem],RB.refl _,hG,E.tld pr 10 54⟩
    ·exact ExOk.val rfl fun ev w9 v hG E pr=>by
      obtain⟨s,u,e1,h1,h2⟩:RcV w'.drew.heap.size (rcvN y.n z.m) (rcvL y.n z.m) (ev (.tmp 43)) w9:=E.tld pr 11 43;exact⟨ndV (rcvN y.n z.m) s,w9,by simp[go_sem,e1],RB.refl _,hG,s,rfl,h1⟩
    ·exact ExOk.val rfl fun ev w9 v hG E pr=>by
      obtain⟨s,u,e1,h1,h2⟩:RcV w'.drew.heap.size (rcvN y.n z.m) (rcvL y.n z.m) (ev (.tmp 43)) w9:=E.tld pr 11 43;exact⟨u,w9,by simp[go_sem,e1],RB.refl _,hG,h2⟩
    ·exact ExOk.val rfl fun ev w9 v hG E pr=>⟨.pointer (some ⟨w9.heap.size,0,none⟩),w9.alloc (.cells (ndL nd0 ns0).toArray 27),(by (simp[go_sem])<;>rfl),RB.alloc _ _,RB.trans _ _ _ hG (RB.alloc _ _),w9.heap.size,rfl,hG.size,ndB_new w9 nd0 ns0⟩
    ·exact ExOk.skip rfl (by decide) fun ev w9 v hG E pr=>by
      obtain⟨b5,e1,hb5,vB⟩:BxN w'.drew.heap.size (ev (.tmp 5)) w9:=E.tld pr 14 5;obtain⟨s,e2,hO⟩:CpV w'.drew.heap.size (rcvN y.n z.m) (ev (.tmp 55)) w9:=E.tld pr 12 55;have hg:w9.grownBy (setL w9 b5 0 (ndL (rcvN y.n z.m) s)) (some b5):=gr_setL _ _ 0 _;have e3:v 14=ev (.tmp 5):=(E.at_ 14 5 rfl (by kernel_rfl) (Nat.le_of_ble_eq_true (by kernel_rfl))).symm
      have h15:BxS w'.drew.heap.size (rcvN y.n z.m) (v 14) (setL w9 b5 0 (ndL (rcvN y.n z.m) s)):=by
       rw[e3];exact⟨b5,s,e1,hb5,vhas_box _ vB,hO.gr hg (ndT vB) (by decide) (by decide)⟩
      exact⟨_,exec_box (ndL (rcvN y.n z.m) s) rfl e1 e2 vB (by kernel_rfl) (oneAll (by kernel_rfl)),⟨b5,hg,vB.typed,hb5⟩,rb_row hG hg (fun x e=>by cases e;exact hb5),h15⟩
    ·exact ExOk.val rfl fun ev w9 v hG E pr=>⟨ev (.tmp 56),w9,by simp[go_sem],RB.refl _,hG,E.tld pr 13 56⟩
   ·intro v8 W8 hG8 hp8
    have p15:(BxS w'.drew.heap.size (rcvN y.n z.m)) (v8 14) W8:=hp8 15 (by decide) (by kernel_rfl);have p16:(NetV w'.drew.heap.size (rcvL y.n z.m)) (v8 16) W8:=hp8 16 (by decide) (by kernel_rfl);clear hp8;obtain⟨b5,s5,e5,hb5,v5,hO5⟩:BxS w'.drew.heap.size (rcvN y.n z.m) (v8 14) W8:=p15;have hu5:NetV w'.drew.heap.size (rcvL y.n z.m) (v8 16) W8:=p16;simp only[putL,Nat.zero_add,Nat.reduceAdd,Act.put,List.setIfInBounds_toArray,List.set_cons_zero,List.set_cons_succ,e5];clear p16;generalize v8 16=u5 at hu5 ⊢;have hD2:=hD.next hG8;have hM2:MsB W8 bm z.m z.eo z.ec:=VHas.next hM hG8;have hbl2:=blw_rb hbl hbs hG8;have hHb:base<=w'.drew.heap.size:=Nat.le_trans hbs hbl.size;have hbn:=hG8.size;have hA9:∀ x,(Value.slice a9 q9.length c9).ownBlock=some x->x<w'.drew.heap.size:=fun x e=>(GOwn.at hD.m.o e).2
    obtain⟨hMi,hTi⟩:(rcvN y.n z.m).id=y.n.id/\(rcvN y.n z.m).peers=y.n.peers:=⟨(Trn.rcv hyk z.m).i,(Trn.rcv hyk z.m).p⟩
    have hPn:=hP2.put (z':=⟨(rcvN y.n z.m),s5⟩) hy (hyk.rcv z.m) hMi hTi (rcvN_tx hyt hzw.z);have hmsw:=rcvL_w hyk hyt hzw;clear hD hM hbl hyO hzM hzE2 hG8 e5 hyz;replace hto1:Hid (z.m.to=(t:Int)):=hto1
    go_wp2_with fail
    replace hto1:=hto1.out;have hd:RB W8 W8.drew:=(Below.refl _ _).drew;have hD:=hD2.next hd;have hM:MsB W8.drew bm z.m z.eo z.ec:=VHas.next hM2 hd;replace hO5:=hO5.next hd;have v5':NdB W8.drew b5 (rcvN y.n z.m) s5:=VHas.next v5 hd;replace hu5:=NetV.rb _ _ _ hu5 hd;have hbl:=blw_rb hbl2 hbs hd;clear v5 hD2 hM2 hbl2 hd;obtain⟨hO5,v5⟩:NdO W8.drew base (rcvN y.n z.m) s5/\NdB W8.drew b5 (rcvN y.n z.m) s5:=⟨hO5.from hHb,v5'⟩
    refine region_store (by kernel_rfl) (by kernel_rfl) (by kernel_rfl) RB RB.refl RB.trans
     [isV (.pointer (some ⟨b,0,none⟩)),isV (.pointer (some ⟨b,0,none⟩)),isV (.pointer (some ⟨b,0,none⟩)),isV (.slice (some ⟨g,0,none⟩) l.length cap),isV (.pointer (some ⟨bm,3,none⟩)),isV (.int .i64 z.m.to),isV (ndV (rcvN y.n z.m) s5),isV (.pointer (some ⟨g,t*10,none⟩))]
     ⟨isV.rb,isV.rb,isV.rb,isV.rb,isV.rb,isV.rb,isV.rb,isV.rb,trivial⟩ rfl ?_ _ rfl rfl rfl
     (fun v9 W9=>ClB W9 b base (l.set t ⟨(rcvN y.n z.m),s5⟩) q9 (some ⟨g,0,none⟩) cap a9 c9/\NetV w'.drew.heap.size (rcvL y.n z.m) u5 W9/\Below base w W9) ?_ ?_
    ·simp only[List.size_toArray,List.length_cons,List.length_nil,Nat.reduceAdd,Nat.reduceSub,List.take_succ_cons,List.take_zero]
     refine⟨?_,?_,?_,?_,?_,?_,?_,?_,trivial⟩
     ·exact oq rfl fun ev w9 v hR E pr=>by
       have e1:=E.was 0 _;simp[go_sem,e1]
     ·exact oq rfl fun ev w9 v hR E pr=>by
       have e1:=E.eq pr 0 57;simp[go_sem,e1]
     ·exact oq rfl fun ev w9 v hR E pr=>by
       have e1:=E.eq pr 1 58;simp[go_sem,e1]
     ·exact oq rfl fun ev w9 v hR E pr=>by
       have e1:=E.eq pr 2 59;have cc:=(hD.x.next hR).cell (j:=0) (by omega);simp[lf]at cc;simp[go_sem,cc,e1]
     ·exact oq rfl fun ev w9 v hR E pr=>by
       have e1:=E.was 4 _;simp[go_sem,e1]
     ·exact oq rfl fun ev w9 v hR E pr=>by
       have e1:=E.eq pr 4 61;have cc:=(hM.next hR).cell (j:=3) (by omega);simp[lf]at cc;simp[go_sem,cc,e1]
     ·exact oq rfl fun ev w9 v hR E pr=>by
       have e1:=E.was 5 _;exact exec_nd rfl e1 (v5.next hR)
     ·exact oq rfl fun ev w9 v hR E pr=>by
       have e1:=E.eq pr 3 60;have e2:=E.eq pr 5 62;simp[go_sem,hto1,ht0,htl,e1,e2]
    ·intro ev w9 v hR E hp9
     obtain⟨_,_,_,_,_,_,p6,p7,_⟩:=hp9;have E1:=E.at_ 7 64 rfl (by kernel_rfl) (Nat.le_of_ble_eq_true (by kernel_rfl));have E2:=E.at_ 6 63 rfl (by kernel_rfl) (Nat.le_of_ble_eq_true (by kernel_rfl));rw[p7]at E1;rw[p6]at E2;have h9:=hD.next hR;have g9:=gr_setL g (ndL (rcvN y.n z.m) s5) (t*10) w9;have hgn:∀ x,some g=some x->Typed w9 x 27:=fun x e=>GOwn.typed h9.n (x:=x) (by cases e;rfl)
     exact⟨_,exec_boxAt (ndL (rcvN y.n z.m) s5) rfl E1 E2 ((GOwn.vhas h9.n (by omega)).elim fun g' ⟨e',_,hv⟩=>by cases e';exact hv) (by show t*10+10<=l.length*10;omega) (by kernel_rfl) (oneAll (by kernel_rfl)),h9.put htL ⟨(rcvN y.n z.m),s5⟩ (hO5.next hR),NetV.gr (NetV.rb _ _ _ hu5 hR) g9 (hgn g rfl),blw_row (blw_rb hbl hbs hR) hbs g9 (fun x e=>(GOwn.at h9.n (x:=x) (by cases e;rfl)).1)⟩
    ·intro v9 W9 hF9
     simp only[List.size_toArray,List.length_cons,List.length_nil,Nat.reduceAdd,Nat.reduceSub,List.take_succ_cons,List.take_zero,putL,Nat.zero_add,Act.put,List.setIfInBounds_toArray,List.set_cons_zero,List.set_cons_succ];obtain⟨hC9,hu9,hbl9⟩:=hF9;obtain⟨lo,lc,l2,eu,hl2,hN2⟩:=hu9;subst eu;have hl2w:∀ q∈l2,MsW q.m:=fun q hq=>hmsw q.m (by rw[<-hl2];exact List.mem_map_of_mem hq)
     have hl2n:l2.length<=1000:=by
      have e1:l2.length=(rcvL y.n z.m).length:=by rw[<-hl2,List.length_map]
      rw[e1];exact rcvL_len hyk z.m
     clear hmsw hl2
     go_wp2_with fail
     refine (l12Send_any b base w'.drew.heap.size _ q9 _ cap a9 c9 l2 lo lc W9 (Nat.le_trans hbs hbl9.size) hbb hHb hC9 hPn hN2 hl2n hl2w (fun x e y' e'=>by
      have h1:=hA9 x e;have h2:w'.drew.heap.size<=y':=(GOwn.at hN2.o (x:=y') (by subst e';rfl)).1
      omega)).mono ?_
     rintro e w9 ⟨rfl,⟨q',eo',ec',hC',hP'⟩,hbl'⟩;go_wp2;simp[bodyPost,results,Tryz.results97,go_sem];exact⟨⟨_,⟨q',eo',ec',hC',hP'⟩,by rw[List.length_set]⟩,blw_trans hbl9 hbl' hbs⟩
def DoA (b base k:Nat) (ao:Option Addr) (cap:Nat) (w w':World) (e:Ending):Prop:=(∃ c,e=.returned (.int .i64 c))/\ClT w' b base k ao cap/\Below base w w'
theorem l12Send_nil (b base:Nat) (l:List Nq) (ao:Option Addr) (cap:Nat) (lo:Option Addr) (lc:Nat) (w:World) (hC:ClS w b base l ao cap):Calls Tryz.prog 99 #[.pointer (some ⟨b,0,none⟩),.slice lo 0 lc] w fun e w'=>e=.returned (.tuple #[])/\w'=w:=by
 obtain⟨q,eo,ec,hC,hP⟩:=hC;have c0:=VHas.cell hC.x (j:=0) (by omega);have c1:=VHas.cell hC.x (j:=1) (by omega);simp[lf]at c0 c1;go_enter Tryz.func99,Tryz.ntmps99;go_wp2
 go_loopw [4] (fun x wr=>x=.int .i64 0/\wr=w) (fun _ _=>0)
 case atStart=>exact⟨rfl,rfl⟩
 case round=>
  obtain⟨rfl,rfl⟩:=hrel;go_wp2;simp[bodyPost,results,Tryz.results99,go_sem]
def SnV (w0:World) (v:Value) (W:World):Prop:=∃ ms,NetV w0.heap.size ms v W/\(∀ m∈ms,MsW m)/\ms.length<=1000
theorem SnV.rb {w0:World} (v:Value) (w w':World) (h:SnV w0 v w) (hb:RB w w'):SnV w0 v w':=by
 obtain⟨ms,h1,h2,h3⟩:=h;exact⟨ms,NetV.rb _ _ _ h1 hb,h2,h3⟩
theorem SnV.gr {w0:World} {v:Value} {w w':World} {x:Nat} (h:SnV w0 v w) (hg:w.grownBy w' (some x)) (hx:Typed w x 27):SnV w0 v w':=by
 obtain⟨ms,h1,h2,h3⟩:=h;exact⟨ms,NetV.gr h1 hg hx,h2,h3⟩
theorem l12Send_val (b base:Nat) (l:List Nq) (q:List Mq) (ao:Option Addr) (cap:Nat) (eo:Option Addr) (ec:Nat) (v:Value) (w0 w:World) (hbs:base<=w0.heap.size) (hs:w0.heap.size<=w.heap.size) (hbb:base<=b) (hC:ClB w b base l q ao cap eo ec) (hq:∀ x,(Value.slice eo q.length ec).ownBlock=some x->x<w0.heap.size) (hP:ClP l q) (hv:SnV w0 v w):Calls Tryz.prog 99 #[.pointer (some ⟨b,0,none⟩),v] w fun e w'=>e=.returned (.tuple #[])/\ClS w' b base l ao cap/\Below base w w':=by
 obtain⟨ms,⟨lo,lc,l2,rfl,hl2,hN⟩,h2,h3⟩:=hv;refine l12Send_any b base w0.heap.size l q ao cap eo ec l2 lo lc w (Nat.le_trans hbs hs) hbb hbs hC hP hN ?_ (fun z hz=>h2 z.m (by rw[<-hl2];exact List.mem_map_of_mem hz)) (fun x e y e'=>?_)
 ·have:l2.length=ms.length:=by rw[<-hl2,List.length_map]
  omega
 ·have h5:=hq x e
  have h6:w0.heap.size<=y:=(GOwn.at hN.o (x:=y) (by subst e';rfl)).1;omega
def PpV (H:Nat) (n:Nd) (k:Int) (v:Value) (w:World):Prop:=∃ s,v=.tuple #[ndV n s,.int .i64 k]/\NdO w H n s
theorem PpV.rb {H:Nat} {n:Nd} {k:Int} (v:Value) (w w':World) (h:PpV H n k v w) (hb:RB w w'):PpV H n k v w':=by
 obtain⟨s,e,h⟩:=h;exact⟨s,e,h.next hb⟩
theorem PpV.gr {H x:Nat} {n:Nd} {k:Int} {v:Value} {w w':World} (h:PpV H n k v w) (hg:w.grownBy w' (some x)) (hx:Typed w x 27):PpV H n k v w':=by
 obtain⟨s,e,h⟩:=h;exact⟨s,e,h.gr hg (fun y e=>by cases e;exact hx) (by decide) (by decide)⟩
theorem OkN.nep {n:Nd} (h:OkN n) (t:ByteArray):psN n t=prN n t:=by unfold psN;rw[if_pos h.R]
theorem OkN.ne {n:Nd} (h:OkN n):tsN n=tmN n/\tsL n=tmL n/\rsN n=rsO n:=⟨by unfold tsN;rw[if_pos h.R],by unfold tsL;rw[if_pos h.R],by unfold rsN;rw[if_pos h.R]⟩
theorem tm_same {n:Nd} (h:OkN n):(tmN n).id=n.id/\(tmN n).peers=n.peers:=by
 unfold tmN;rw[if_pos h.B]
 split
 ·exact⟨rfl,rfl⟩
 ·split
  ·exact⟨(ldA_same (stN n)).1,(ldA_same (stN n)).2.1⟩
  ·exact⟨rfl,rfl⟩
theorem tm_len {n:Nd} (h:OkN n):(tmL n).length<=1000:=by
 unfold tmL
 split
 ·split
  ·simp
  ·next b1=>
   have hp:=h.b.p
   split
   ·have e:=(ldA_same (stN n)).2.1
    have h1:=othL_len (ldN (stN n)).id (fun k=>appM (ldN (stN n)) (nxtI (ldN (stN n)) k) k) (ldN (stN n)).peers.toNat;have h2:(ldN (stN n)).peers=n.peers:=e;unfold ldL beatL;omega
   ·have h1:=othL_len n.id (fun k=>voteM (stN n) (k:Int)) n.peers.toNat
    omega
 ·simp
theorem pr_same {n:Nd} (h:OkN n) (t:ByteArray):(prN n t).id=n.id/\(prN n t).peers=n.peers:=by
 unfold prN;rw[if_pos h.B]
 split<;>exact⟨rfl,rfl⟩
end
section
open Go Go.RowKit
theorem CurAt.typed {w:World} {base c:Nat} {ao:Option Addr} {n cap:Nat} (h:CurAt w base c ao n cap):Typed w c 83:=by
 obtain⟨i,x,_,_,hv⟩:=h.cur;exact hv.typed
end
section
open Go.RowKit
attribute [local go_sem ↓] Go.wp_at_zero Go.wp_at_succ
theorem gr_then {w w1 w2:World} {row:Option Nat} {B:Nat} (h:w.grownBy w1 row) (hb:Below B w1 w2) (hB:w.heap.size<=B):w.grownBy w2 row:=
 ⟨hb.os.trans h.os,hb.tape.trans h.tape,hb.output.trans h.output,Nat.le_trans h.size hb.size,fun k hk hne=>(hb.block k (by omega)).trans (h.block k hk hne)⟩
theorem gr_of_b {w w':World} {b:Option Nat} (hb:Below w.heap.size w w'):w.grownBy w' b:=⟨hb.os,hb.tape,hb.output,hb.size,fun k hk _=>hb.block k hk⟩
def NOwnE (w:World) (base:Nat) (lo:Option Addr) (k lc:Nat):Prop:=∃ (T:Nat->Int) (X:Nat->ByteArray),(∀ j,j<k->(X j).size<=100)/\w.ownsRow base 47 2 (.slice lo k lc) k (nCells T X k)/\∃ g,lo=some ⟨g,0,none⟩
theorem NOwnE.grown {w w':World} {base k lc x:Nat} {lo:Option Addr} (h:NOwnE w base lo k lc) (hg:w.grownBy w' (some x)) (hx:x<base):NOwnE w' base lo k lc:=by
 obtain⟨T,X,hX,⟨hl,ho⟩,hg0⟩:=h;refine⟨T,X,hX,⟨hl,?_⟩,hg0⟩;rcases ho with h|⟨g,cap,cur,e,hb,hblk,h1,h2,h3,h4⟩
 ·exact .inl h
 ·exact .inr ⟨g,cap,cur,e,hb,by rw[hg.block g (Array.getElem?_eq_some_iff.1 hblk).1 (by simp;omega)];exact hblk,h1,h2,h3,h4⟩
theorem NOwnE.next {w w':World} {base k lc:Nat} {lo:Option Addr} (h:NOwnE w base lo k lc) (hb':Below w.heap.size w w'):NOwnE w' base lo k lc:=by
 obtain⟨T,X,hX,⟨hl,ho⟩,hg0⟩:=h;refine⟨T,X,hX,⟨hl,?_⟩,hg0⟩;rcases ho with h|⟨g,cap,cur,e,hb,hblk,h1,h2,h3,h4⟩
 ·exact .inl h
 ·exact .inr ⟨g,cap,cur,e,hb,by rw[hb'.block g (Array.getElem?_eq_some_iff.1 hblk).1];exact hblk,h1,h2,h3,h4⟩
theorem NOwnE.new (w:World):NOwnE (w.alloc (.cells #[] 47)) w.heap.size (some ⟨w.heap.size,0,none⟩) 0 0:=⟨fun _=>0,fun _=>ByteArray.empty,fun j hj=>by omega,empty_ownsN w,_,rfl⟩
theorem NOwnE.add {w':World} {base k lc g:Nat} {T:Nat->Int} {X:Nat->ByteArray} {t:Int} {x:ByteArray} (hX:∀ j,j<k->(X j).size<=100) (hx:x.size<=100) (ho:w'.ownsRow base 47 2 (.slice (some ⟨g,0,none⟩) (k+1) lc) (k+1) (nCells T X k++nCells (fun _=>t) (fun _=>x) 1)):NOwnE w' base (some ⟨g,0,none⟩) (k+1) lc:=by
 refine⟨fun j=>if j<k then T j else t,fun j=>if j<k then X j else x,fun j hj=>?_,?_,_,rfl⟩
 ·by_cases h:j<k
  ·simp only[if_pos h];exact hX j h
  ·simp only[if_neg h];exact hx
 ·rw[<-nCells_app (T:=T) (U:=fun _=>t) (X:=X) (Y:=fun _=>x) (a:=k) (b:=1) _ _ (fun j hj=>⟨by simp[hj],by simp[hj]⟩) (fun j hj=>⟨if_neg (by omega),if_neg (by omega)⟩)]
  exact ho
theorem owns_alloc {w:World} {base:Nat} {e:TypeId} {size:Nat} {v:Value} {k:Nat} {xs:List Value} (h:w.ownsRow base e size v k xs) (o:Obj):(w.alloc o).ownsRow base e size v k xs:=by
 obtain⟨hl,ho⟩:=h;refine⟨hl,?_⟩;rcases ho with h|⟨g,cap,cur,e,hb,hblk,h1,h2,h3,h4⟩
 ·exact .inl h
 ·exact .inr ⟨g,cap,cur,e,hb,by rw[((Below.refl w.heap.size w).alloc nl o).block g (Array.getElem?_eq_some_iff.1 hblk).1];exact hblk,h1,h2,h3,h4⟩
theorem new_entry (w:World) (t:Int) (x:ByteArray):NRow (w.alloc (.cells #[.int .i64 t,.string x] 47)) (some ⟨w.heap.size,0,none⟩) 1 (fun _=>t) (fun _=>x):=fun k hk=>by
 obtain rfl:k=0:=by omega
 exact⟨_,_,rfl,by simp[go_sem],by simp[go_sem]⟩
theorem CurAt.keep {w w':World} {base c B:Nat} {ao:Option Addr} {n cap:Nat} (h:CurAt w base c ao n cap) (hb:Below B w w') (hB:c<B):CurAt w' base c ao n cap:=by
 obtain⟨hge,hlen,hby,i,h0,h1,h2,hv⟩:=h;exact⟨hge,hlen,hby.below hb (by omega),i,h0,h1,h2,hv.below hb hB⟩
set_option maxHeartbeats 1000000 in
theorem l10DrawText_any (base c:Nat) (ao:Option Addr) (n cap:Nat) (w:World) (hC:CurAt w base c ao n cap):
  Calls Tryz.prog 57 #[.pointer (some ⟨c,0,none⟩)] w fun e w'=>∃ x:ByteArray,e=.returned (.string x)/\x.size<=100/\CurAt w' base c ao n cap/\w.grownBy w' (some c):=by
 go_enter Tryz.func57,Tryz.ntmps57;have hal:∀ o,Below w.heap.size w (w.alloc o):=fun o=>(Below.refl _ _).alloc nl o
 have hcl:=hC.lt
 go_wp2_with fail
 refine (l1Below_any base c ao n cap 6 (by omega) (by omega) _ (hC.next (hal _))).mono ?_;rintro e w1 ⟨x,rfl,hx,hC1,hg1⟩;have hx':x<6:=by omega
 have hb1:=hg1.block w.heap.size (by simp) (by simp;omega);rw[Go.Deep.blk_alloc_new]at hb1;have hgr:w.grownBy w1 (some c):=(gr_of_b (hal _)).trans hg1
 have hcell:∀ (j:Nat) (v:Value),(#[.string { data:=#[110,111,110,101] },.string { data:=#[97,115,107,32,48,32,49] },.string { data:=#[97,115,107,32,49,32,48] },.string { data:=#[119,101,105,103,104,32,48,32,49,32,51] },.string { data:=#[119,101,105,103,104,32,48,32,49,32,55] },.string { data:=#[97,115,107,32,48,32,50] }]:Array Value)[j]?=some v->w1.cell? ⟨w.heap.size,j,none⟩=some v:=fun j v hj=>by
  simp only[World.cell?,hb1];exact hj
 have hcase:x=0\/x=1\/x=2\/x=3\/x=4\/x=5:=by omega
 clear hb1 hg1;rcases hcase with rfl|rfl|rfl|rfl|rfl|rfl
 ·have hq:=hcell 0 _ rfl
  clear hcell;go_wp2;go_ret;exact⟨_,rfl,by decide,hC1,hgr⟩
 ·have hq:=hcell 1 _ rfl
  clear hcell;go_wp2;go_ret;exact⟨_,rfl,by decide,hC1,hgr⟩
 ·have hq:=hcell 2 _ rfl
  clear hcell;go_wp2;go_ret;exact⟨_,rfl,by decide,hC1,hgr⟩
 ·have hq:=hcell 3 _ rfl
  clear hcell;go_wp2;go_ret;exact⟨_,rfl,by decide,hC1,hgr⟩
 ·have hq:=hcell 4 _ rfl
  clear hcell;go_wp2;go_ret;exact⟨_,rfl,by decide,hC1,hgr⟩
 ·have hq:=hcell 5 _ rfl
  clear hcell;go_wp2;go_ret;exact⟨_,rfl,by decide,hC1,hgr⟩
set_option maxHeartbeats 1000000 in
theorem l10Draw_any (base c:Nat) (ao:Option Addr) (n cap:Nat) (w:World) (hC:CurAt w base c ao n cap):
  Calls Tryz.prog 100 #[.pointer (some ⟨c,0,none⟩)] w fun e w'=>∃ (lo:Option Addr) (k lc:Nat),e=.returned (.slice lo k lc)/\k<=6/\NOwnE w' w.heap.size lo k lc/\CurAt w' base c ao n cap/\w.grownBy w' (some c):=by
 have hal:∀ o,Below w.heap.size w (w.alloc o):=fun o=>(Below.refl _ _).alloc nl o
 have hcl:=hC.lt;go_enter Tryz.func100,Tryz.ntmps100
 go_wp2_with fail
 refine (l1Below_any base c ao n cap 7 (by omega) (by omega) _ (hC.next (hal _))).mono ?_;rintro e w1 ⟨x,rfl,hx,hC1,hg1⟩;have hO1:NOwnE w1 w.heap.size (some ⟨w.heap.size,0,none⟩) 0 0:=(NOwnE.new w).grown hg1 hcl;have hgr1:w.grownBy w1 (some c):=(gr_of_b (hal _)).trans hg1;go_wp2
 go_loopw [3,4,5] (fun a t q wr=>∃ (lo:Option Addr) (k lc r:Nat) (tt:Int),a=.slice lo k lc/\t=.int .i64 tt/\q=.int .i64 r/\r+k<=6/\NOwnE wr w.heap.size lo k lc/\CurAt wr base c ao n cap/\w.grownBy wr (some c)) (fun _ _ q _=>(intOf q).toNat)
 case atStart=>exact⟨_,0,0,x,1,rfl,rfl,rfl,by omega,hO1,hC1,hgr1⟩
 case round=>
  obtain⟨lo,k,lc,r,tt,rfl,rfl,rfl,hrk,hO,hCr,hgr⟩:=hrel
  by_cases hz:0<r
  rotate_left
  ·obtain rfl:r=0:=by omega
   go_wp2;go_ret;exact⟨lo,k,lc,rfl,by omega,hO,hCr,hgr⟩
  have hz':(0:Int)<(r:Int):=by omega
  have hrw:IntKind.i64.wrap ((r:Int)-1)=((r-1:Nat):Int):=by rw[IntKind.wrap_i64];omega
  go_wp2_with fail
  refine (l1Below_any base c ao n cap 3 (by omega) (by omega) _ hCr).mono ?_;rintro e w2 ⟨y,rfl,hy,hC2,hg2⟩;have hO2:=hO.grown hg2 hcl;have hgr2:=hgr.trans hg2
  go_wp2_with fail
  refine (l10DrawText_any base c ao n cap _ hC2).mono ?_;rintro e w3 ⟨s3,rfl,hs3,hC3,hg3⟩;obtain⟨T,X,hX,hown,g,rfl⟩:=hO2.grown hg3 hcl;have hgr3:=hgr2.trans hg3;have hz3:=hgr3.size;clear hO hO2 hC2 hCr
  go_wp2_with (at_builtin;refine wpList_appN rfl _ _ rfl w.heap.size g k lc (nCells T X k) rfl (owns_alloc hown _) (some ⟨w3.heap.size,0,none⟩) 1 1 (fun _=>_) (fun _=>s3) rfl (new_entry w3 _ _) (by omega) (by simp;omega) ?_;intro g' cap' w4 hown' hb4)
  have hb34:Below w.heap.size w3 w4:=((Below.refl w.heap.size w3).alloc hz3 _).trans hb4;have hC4:CurAt w4 base c ao n cap:=hC3.keep hb34 hcl;have hO4:=NOwnE.add hX hs3 hown';have hgr4:=gr_then hgr3 hb34 nl;clear hown hown' hC3 hb4;go_wp2
  go_roundw
  case rel=>exact⟨_,k+1,_,r-1,_,rfl,rfl,by go_num,by omega,hO4,hC4,hgr4⟩
  case measure=>simp[intOf];omega

end
end Go.Proofs.YtbabakgjkloabaaGreatDoor
