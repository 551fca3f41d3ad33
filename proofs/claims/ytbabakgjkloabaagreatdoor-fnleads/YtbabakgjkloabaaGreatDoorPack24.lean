/-
  Helpers: Do3, Do4, Do5, Do6, Do7, Do0, CluM.
-/
import Derived.Test.YtbabakgjkloabaaGreatDoorPack2
import Derived.Test.YtbabakgjkloabaaGreatDoorPack22
import Derived.Test.YtbabakgjkloabaaGreatDoorPack8
import Derived.Test.YtbabakgjkloabaaGreatDoorPack12
import Derived.Test.YtbabakgjkloabaaGreatDoorPack23
import Derived.Test.YtbabakgjkloabaaGreatDoorPack10
set_option linter.unusedVariables false
set_option linter.unusedSimpArgs false
namespace Go.Proofs.YtbabakgjkloabaaGreatDoor
section
open Go Go.RowKit
attribute [local go_sem ↓] Go.wp_at_zero Go.wp_at_succ
set_option maxRecDepth 100000 in
set_option maxHeartbeats 16000000 in
theorem l12Do3_any (b base:Nat) (l:List Nq) (q:List Mq) (ao:Option Addr) (cap:Nat) (eo:Option Addr) (ec:Nat) (N I:Int) (T:ByteArray) (hT:T.size<=1048576) (w:World) (hbs:base<=w.heap.size) (hbb:base<=b) (hC:ClB w b base l q ao cap eo ec) (hP:ClP l q):Calls Tryz.prog 64 #[.pointer (some ⟨b,0,none⟩),.agg #[.int .i64 3,.int .i64 N,.int .i64 I,.string T]] w fun e w'=>DoA b base l.length ao cap w w' e:=by
 have hq200:=hP.net;have hl5:=hP.len;obtain⟨g,eg,hgb,_⟩:=GOwn.vhas hC.n (by omega);subst eg;have hal:=RB.alloc w (.cells #[.int .i64 3,.int .i64 N,.int .i64 I,.string T] 89);have vO:VHas (w.alloc (.cells #[.int .i64 3,.int .i64 N,.int .i64 I,.string T] 89)) w.heap.size 89 4 (lf [.int .i64 3,.int .i64 N,.int .i64 I,.string T]):=box_new w [.int .i64 3,.int .i64 N,.int .i64 I,.string T] 89;have hbl:=blw_rb (Below.refl base w) hbs hal;replace hC:=hC.next hal;clear hal;go_enter Tryz.func64,Tryz.ntmps64;have o0:=VHas.cell vO (j:=0) (by omega);simp[lf]at o0
 go_wp2_with fail
 clear o0;generalize (w.alloc (.cells #[.int .i64 3,.int .i64 N,.int .i64 I,.string T] 89))=W at vO hbl hC ⊢;refine (l1In_rb 3 1 7 _).mono ?_;rintro e w1 ⟨rfl,hb1⟩;rw[show inB 3 1 7=true from rfl];replace vO:VHas w1 w.heap.size 89 4 (lf [.int .i64 3,.int .i64 N,.int .i64 I,.string T]):=VHas.next vO hb1;replace hC:=hC.next hb1;replace hbl:=blw_rb hbl hbs hb1;clear hb1;have o0:=VHas.cell vO (j:=0) (by omega);simp[lf]at o0
 go_wp2_with fail
 refine (l1In_rb 3 4 6 _).mono ?_;rintro e w2 ⟨rfl,hb1⟩;rw[show inB 3 4 6=false from rfl];replace vO:VHas w2 w.heap.size 89 4 (lf [.int .i64 3,.int .i64 N,.int .i64 I,.string T]):=VHas.next vO hb1;replace hC:=hC.next hb1;replace hbl:=blw_rb hbl hbs hb1;clear hb1 o0
 go_wp2_with fail
 have hd:RB w2 w2.drew:=(Below.refl _ _).drew;have hD:=hC.next hd;have hO:VHas w2.drew w.heap.size 89 4 (lf [.int .i64 3,.int .i64 N,.int .i64 I,.string T]):=VHas.next vO hd;replace hbl:=blw_rb hbl hbs hd;clear hC vO hd;have hw35:IntKind.i64.wrap ((l.length:Int)-1)=((l.length:Int)-1):=by rw[IntKind.wrap_i64];omega
 obtain⟨b36,qb36⟩:∃ b:Bool,b=(inB (N) (0) (((l.length:Int)-1))):=⟨_,rfl⟩
 obtain⟨b37,qb37⟩:∃ b:Bool,b=(!b36):=⟨_,rfl⟩
 refine region_all (by kernel_rfl) (by kernel_rfl) RB RB.refl RB.trans
  [isV (.pointer (some ⟨w.heap.size,1,none⟩)),isV (.int .i64 N),isV (.pointer (some ⟨b,0,none⟩)),isV (.pointer (some ⟨b,0,none⟩)),isV (.pointer (some ⟨b,0,none⟩)),isV (.slice (some ⟨g,0,none⟩) l.length cap),isV (.int .i64 (l.length:Int)),isV (.int .i64 ((l.length:Int)-1)),isV (.bool b36),isV (.bool b37),isV (.bool b37)]
  ⟨isV.rb,isV.rb,isV.rb,isV.rb,isV.rb,isV.rb,isV.rb,isV.rb,isV.rb,isV.rb,isV.rb,trivial⟩ rfl ?_ ?_
 ·refine⟨?_,?_,?_,?_,?_,?_,?_,?_,?_,?_,?_,trivial⟩
  ·exact oq rfl fun ev w' v hR E pr=>by
    have e1:=E.was 3 _;simp[go_sem,e1]
  ·exact oq rfl fun ev w' v hR E pr=>by
    have e1:=E.eq pr 0 28;have cc:=(hO.next hR).cell (j:=1) (by omega);simp[lf]at cc;simp[go_sem,cc,e1]
  ·exact oq rfl fun ev w' v hR E pr=>by
    have e1:=E.was 0 _;simp[go_sem,e1]
  ·exact oq rfl fun ev w' v hR E pr=>by
    have e1:=E.eq pr 2 30;simp[go_sem,e1]
  ·exact oq rfl fun ev w' v hR E pr=>by
    have e1:=E.eq pr 3 31;simp[go_sem,e1]
  ·exact oq rfl fun ev w' v hR E pr=>by
    have e1:=E.eq pr 4 32;have cc:=(hD.x.next hR).cell (j:=0) (by omega);simp[lf]at cc;simp[go_sem,cc,e1]
  ·exact oq rfl fun ev w' v hR E pr=>by
    have e1:=E.eq pr 5 33;simp[go_sem,e1]
  ·exact oq rfl fun ev w' v hR E pr=>by
    have e1:=E.eq pr 6 34;simp[go_sem,E.con,hw35,e1]
  ·exact OpOk.ret _ (fun _=>rfl) fun ev w' v hR E pr=>by
    have e1:=E.eq pr 1 29;have e2:=E.eq pr 7 35;refine⟨40,#[.int .i64 N,.int .i64 0,.int .i64 ((l.length:Int)-1)],by simp[go_sem,gv,e1,e2,E.con,E.fn],?_⟩;rw[qb36];exact l1In_rb (N) (0) (((l.length:Int)-1)) _
  ·exact oq rfl fun ev w' v hR E pr=>by
    have e1:=E.eq pr 8 36;simp[go_sem,qb37,e1]
  ·exact oq rfl fun ev w' v hR E pr=>by
    have e1:=E.eq pr 9 37;simp[go_sem,e1]
 ·intro v w' hR hp
  obtain⟨_,_,_,_,_,_,_,_,_,_,p10,_⟩:=hp;replace p10:v 10=.bool b37:=p10;simp only[putL,Nat.zero_add,Nat.reduceAdd,p10,Act.put,List.setIfInBounds_toArray,List.set_cons_zero,List.set_cons_succ];replace hD:=hD.next hR;replace hO:VHas w' w.heap.size 89 4 (lf [.int .i64 3,.int .i64 N,.int .i64 I,.string T]):=VHas.next hO hR;replace hbl:=blw_rb hbl hbs hR;clear hR;rcases Bool.eq_false_or_eq_true (inB N 0 ((l.length:Int)-1)) with hto|hto
  rotate_left
  ·rw[qb37,qb36,hto]
   go_wp2;simp[bodyPost,results,Tryz.results64,go_sem];exact⟨⟨_,rfl⟩,⟨l,⟨_,_,_,hD,hP⟩,rfl⟩,hbl⟩
  rw[qb37,qb36,hto];obtain⟨t,rfl,htL⟩:=inB_nat hto;clear qb37 qb36 hto;have ht0:(0:Int)<=(t:Int):=by omega
  have htl:(t:Int)<(l.length:Int):=by omega
  have o0:=VHas.cell hO (j:=0) (by omega);have o1:=VHas.cell hO (j:=1) (by omega);have o2:=VHas.cell hO (j:=2) (by omega);simp[lf]at o0 o1 o2;have hsb:base<=w'.heap.size:=Nat.le_trans hbs hbl.size;have halL:=RB.alloc w' (.cells #[] 29);replace hD:=hD.next halL;replace hO:VHas (w'.alloc (.cells #[] 29)) w.heap.size 89 4 (lf [.int .i64 3,.int .i64 (t:Int),.int .i64 I,.string T]):=VHas.next hO halL;replace hbl:=blw_rb hbl hbs halL;obtain⟨y,hy⟩:=nd_get htL;obtain⟨hyk,hyi,hyp,hyt⟩:=hP.ok t y hy;have o0:=VHas.cell hO (j:=0) (by omega);simp[lf]at o0
  go_wp2_with fail
  clear o0 o1 o2;have hd:RB (w'.alloc (.cells #[] 29)) (w'.alloc (.cells #[] 29)).drew:=(Below.refl _ _).drew;replace hD:=hD.next hd;replace hO:VHas (w'.alloc (.cells #[] 29)).drew w.heap.size 89 4 (lf [.int .i64 3,.int .i64 (t:Int),.int .i64 I,.string T]):=VHas.next hO hd;replace hbl:=blw_rb hbl hbs hd;have hyO:=hD.nl y (List.mem_of_getElem? hy);have hyz:NdZ y.n y.s:=hyk.zz hyt hyO.K;have hWs:base<=(w'.alloc (.cells #[] 29)).drew.heap.size:=Nat.le_trans hbs hbl.size;have hA9:∀ x,(Value.slice eo q.length ec).ownBlock=some x->x<(w'.alloc (.cells #[] 29)).drew.heap.size:=fun x e=>(GOwn.at hD.m.o e).2
  clear hd
  refine region_wr (by kernel_rfl) (by kernel_rfl) (by kernel_rfl) (fun W5=>RB (w'.alloc (.cells #[] 29)).drew W5) (RB.refl _) (fun i=>if i=15 then TurnN (w'.alloc (.cells #[] 29)).drew.heap.size else RB) [15]
   [isV (.pointer (some ⟨b,0,none⟩)),isV (.pointer (some ⟨b,0,none⟩)),isV (.pointer (some ⟨b,0,none⟩)),isV (.slice (some ⟨g,0,none⟩) l.length cap),isV (.pointer (some ⟨w.heap.size,1,none⟩)),isV (.int .i64 (t:Int)),isV (.pointer (some ⟨g,t*10,none⟩)),isV (ndV y.n y.s),isV (.pointer (some ⟨w.heap.size,3,none⟩)),isV (.string T),PpV (w'.alloc (.cells #[] 29)).drew.heap.size (psN y.n T) (psK y.n T),PpV (w'.alloc (.cells #[] 29)).drew.heap.size (psN y.n T) (psK y.n T),CpV (w'.alloc (.cells #[] 29)).drew.heap.size (psN y.n T),isV (.int .i64 (psK y.n T)),BxN (w'.alloc (.cells #[] 29)).drew.heap.size,BxS (w'.alloc (.cells #[] 29)).drew.heap.size (psN y.n T),isV (.int .i64 (psK y.n T))]
   [(14,15)] [(15,14)] [] (by kernel_rfl) (by kernel_rfl) ⟨isV.rb,isV.rb,isV.rb,isV.rb,isV.rb,isV.rb,isV.rb,isV.rb,isV.rb,isV.rb,PpV.rb,PpV.rb,CpV.rb,isV.rb,BxN.rb,BxS.rb,isV.rb,trivial⟩ (fun i h=>by simp at h;simp[h]) ?_ ?_ ?_
  ·intro i hi j hj hne hx hd v w1 w2 hp hG hR
   simp only[List.mem_cons,List.not_mem_nil,or_false]at hi;rcases hi with rfl
   ·have hj2:j<17:=hj
    have hj3:j=0\/j=1\/j=2\/j=3\/j=4\/j=5\/j=6\/j=7\/j=8\/j=9\/j=10\/j=11\/j=12\/j=13\/j=14\/j=15\/j=16:=by omega
    rcases hj3 with rfl|rfl|rfl|rfl|rfl|rfl|rfl|rfl|rfl|rfl|rfl|rfl|rfl|rfl|rfl|rfl|rfl
    ·exact hp
    ·exact hp
    ·exact hp
    ·exact hp
    ·exact hp
    ·exact hp
    ·exact hp
    ·exact hp
    ·exact hp
    ·exact hp
    ·obtain⟨b5,hg,hT,_⟩:=hR
     exact PpV.gr hp hg hT
    ·obtain⟨b5,hg,hT,_⟩:=hR
     exact PpV.gr hp hg hT
    ·obtain⟨b5,hg,hT,_⟩:=hR
     exact CpV.gr hp hg hT
    ·exact hp
    ·exact absurd rfl hx
    ·exact absurd rfl hne
    ·exact hp
  ·refine allEx_cons ?_ (allEx_cons ?_ (allEx_cons ?_ (allEx_cons ?_ (allEx_cons ?_ (allEx_cons ?_ (allEx_cons ?_ (allEx_cons ?_ (allEx_cons ?_ (allEx_cons ?_ (allEx_cons ?_ (allEx_cons ?_ (allEx_cons ?_ (allEx_cons ?_ (allEx_cons ?_ (allEx_cons ?_ (allEx_cons ?_ (allEx_nil)))))))))))))))))
   ·exact xq rfl rfl fun ev w9 v hG E pr=>by
     have e1:=E.was 0 _;simp[go_sem,e1]
   ·exact xq rfl rfl fun ev w9 v hG E pr=>by
     have e1:ev (.tmp 76)=.pointer (some ⟨b,0,none⟩):=E.tld pr 0 76;simp[go_sem,e1]
   ·exact xq rfl rfl fun ev w9 v hG E pr=>by
     have e1:ev (.tmp 77)=.pointer (some ⟨b,0,none⟩):=E.tld pr 1 77;simp[go_sem,e1]
   ·exact xq rfl rfl fun ev w9 v hG E pr=>by
     have e1:ev (.tmp 78)=.pointer (some ⟨b,0,none⟩):=E.tld pr 2 78;have cc:=(VHas.next hD.x hG).cell (j:=0) (by omega);simp[lf]at cc;simp[go_sem,cc,e1]
   ·exact xq rfl rfl fun ev w9 v hG E pr=>by
     have e1:=E.was 3 _;simp[go_sem,e1]
   ·exact xq rfl rfl fun ev w9 v hG E pr=>by
     have e1:ev (.tmp 80)=.pointer (some ⟨w.heap.size,1,none⟩):=E.tld pr 4 80;have cc:=(VHas.next hO hG).cell (j:=1) (by omega);simp[lf]at cc;simp[go_sem,cc,e1]
   ·exact xq rfl rfl fun ev w9 v hG E pr=>by
     have e1:ev (.tmp 79)=.slice (some ⟨g,0,none⟩) l.length cap:=E.tld pr 3 79;have e2:ev (.tmp 81)=.int .i64 (t:Int):=E.tld pr 5 81;simp[go_sem,ht0,htl,e1,e2]
   ·exact xq rfl rfl fun ev w9 v hG E pr=>by
     have e1:ev (.tmp 82)=.pointer (some ⟨g,t*10,none⟩):=E.tld pr 6 82;exact exec_ndAt rfl e1 (GOwn.next hD.n hG) hy
   ·exact xq rfl rfl fun ev w9 v hG E pr=>by
     have e1:=E.was 3 _;simp[go_sem,e1]
   ·exact xq rfl rfl fun ev w9 v hG E pr=>by
     have e1:ev (.tmp 84)=.pointer (some ⟨w.heap.size,3,none⟩):=E.tld pr 8 84;have cc:=(VHas.next hO hG).cell (j:=3) (by omega);simp[lf]at cc;simp[go_sem,cc,e1]
   ·exact ExOk.call rfl fun ev w9 v hG E pr=>by
     have e1:ev (.tmp 83)=ndV y.n y.s:=E.tld pr 7 83;have e2:ev (.tmp 85)=.string T:=E.tld pr 9 85;refine⟨22,#[ndV y.n y.s,.string T],by simp[go_sem,e1,e2,E.fn],?_⟩;refine (specPropose_any y.n y.s hyz T hT w9 (hyO.next hG).M).mono ?_;rintro e w8 ⟨s',rfl,hOs,hb⟩;exact⟨_,rfl,hb,RB.trans _ _ _ hG hb,s',rfl,hOs.from hG.size⟩
   ·exact ExOk.val rfl fun ev w9 v hG E pr=>⟨ev (.tmp 86),w9,by simp[go_sem],RB.refl _,hG,E.tld pr 10 86⟩
   ·exact ExOk.val rfl fun ev w9 v hG E pr=>by
     obtain⟨s,e1,h1⟩:PpV (w'.alloc (.cells #[] 29)).drew.heap.size (psN y.n T) (psK y.n T) (ev (.tmp 75)) w9:=E.tld pr 11 75;exact⟨ndV (psN y.n T) s,w9,by simp[go_sem,e1],RB.refl _,hG,s,rfl,h1⟩
   ·exact ExOk.val rfl fun ev w9 v hG E pr=>by
     obtain⟨s,e1,h1⟩:PpV (w'.alloc (.cells #[] 29)).drew.heap.size (psN y.n T) (psK y.n T) (ev (.tmp 75)) w9:=E.tld pr 11 75;exact⟨.int .i64 (psK y.n T),w9,by simp[go_sem,e1],RB.refl _,hG,rfl⟩
   ·exact ExOk.val rfl fun ev w9 v hG E pr=>⟨.pointer (some ⟨w9.heap.size,0,none⟩),w9.alloc (.cells (ndL nd0 ns0).toArray 27),(by (simp[go_sem])<;>rfl),RB.alloc _ _,RB.trans _ _ _ hG (RB.alloc _ _),w9.heap.size,rfl,hG.size,ndB_new w9 nd0 ns0⟩
   ·exact ExOk.skip rfl (by decide) fun ev w9 v hG E pr=>by
     obtain⟨b5,e1,hb5,vB⟩:BxN (w'.alloc (.cells #[] 29)).drew.heap.size (ev (.tmp 6)) w9:=E.tld pr 14 6;obtain⟨s,e2,hO5⟩:CpV (w'.alloc (.cells #[] 29)).drew.heap.size (psN y.n T) (ev (.tmp 87)) w9:=E.tld pr 12 87;have hg:w9.grownBy (setL w9 b5 0 (ndL (psN y.n T) s)) (some b5):=gr_setL _ _ 0 _;have e3:v 14=ev (.tmp 6):=(E.at_ 14 6 rfl (by kernel_rfl) (Nat.le_of_ble_eq_true (by kernel_rfl))).symm
     have h15:BxS (w'.alloc (.cells #[] 29)).drew.heap.size (psN y.n T) (v 14) (setL w9 b5 0 (ndL (psN y.n T) s)):=by
      rw[e3];exact⟨b5,s,e1,hb5,vhas_box _ vB,hO5.gr hg (ndT vB) (by decide) (by decide)⟩
     exact⟨_,exec_box (ndL (psN y.n T) s) rfl e1 e2 vB (by kernel_rfl) (oneAll (by kernel_rfl)),⟨b5,hg,vB.typed,hb5⟩,rb_row hG hg (fun x e=>by cases e;exact hb5),h15⟩
   ·exact ExOk.val rfl fun ev w9 v hG E pr=>⟨ev (.tmp 88),w9,by simp[go_sem],RB.refl _,hG,E.tld pr 13 88⟩
  ·intro v8 W8 hG8 hp8
   have p15:(BxS (w'.alloc (.cells #[] 29)).drew.heap.size (psN y.n T)) (v8 14) W8:=hp8 15 (by decide) (by kernel_rfl);have p16:v8 16=.int .i64 (psK y.n T):=hp8 16 (by decide) (by kernel_rfl);clear hp8;obtain⟨b5,s5,e5,hb5,v5,hO5⟩:BxS (w'.alloc (.cells #[] 29)).drew.heap.size (psN y.n T) (v8 14) W8:=p15;simp only[putL,Nat.zero_add,Nat.reduceAdd,Act.put,List.setIfInBounds_toArray,List.set_cons_zero,List.set_cons_succ,e5,p16];replace hD:=hD.next hG8;replace hO:VHas W8 w.heap.size 89 4 (lf [.int .i64 3,.int .i64 (t:Int),.int .i64 I,.string T]):=VHas.next hO hG8;replace hbl:=blw_rb hbl hbs hG8;clear hyO hyz hA9 hG8 e5;have o0:=VHas.cell hO (j:=0) (by omega);simp[lf]at o0
   go_wp2_with fail
   clear o0;have hd:RB W8 W8.drew:=(Below.refl _ _).drew;replace hD:=hD.next hd;replace hO:VHas W8.drew w.heap.size 89 4 (lf [.int .i64 3,.int .i64 (t:Int),.int .i64 I,.string T]):=VHas.next hO hd;replace hbl:=blw_rb hbl hbs hd;replace v5:NdB W8.drew b5 (psN y.n T) s5:=VHas.next v5 hd;replace hO5:=(hO5.from hWs).next hd;clear hd
   refine region_store (by kernel_rfl) (by kernel_rfl) (by kernel_rfl) RB RB.refl RB.trans
    [isV (.pointer (some ⟨b,0,none⟩)),isV (.pointer (some ⟨b,0,none⟩)),isV (.pointer (some ⟨b,0,none⟩)),isV (.slice (some ⟨g,0,none⟩) l.length cap),isV (.pointer (some ⟨w.heap.size,1,none⟩)),isV (.int .i64 (t:Int)),isV (ndV (psN y.n T) s5),isV (.pointer (some ⟨g,t*10,none⟩))]
    ⟨isV.rb,isV.rb,isV.rb,isV.rb,isV.rb,isV.rb,isV.rb,isV.rb,trivial⟩ rfl ?_ _ rfl rfl rfl
    (fun v9 W9=>(∃ s5,ClB W9 b base (l.set t ⟨(psN y.n T),s5⟩) q (some ⟨g,0,none⟩) cap eo ec)/\True/\Below base w W9) ?_ ?_
   ·simp only[List.size_toArray,List.length_cons,List.length_nil,Nat.reduceAdd,Nat.reduceSub,List.take_succ_cons,List.take_zero]
    refine⟨?_,?_,?_,?_,?_,?_,?_,?_,trivial⟩
    ·exact oq rfl fun ev w9 v hR E pr=>by
      have e1:=E.was 0 _;simp[go_sem,e1]
    ·exact oq rfl fun ev w9 v hR E pr=>by
      have e1:=E.eq pr 0 89;simp[go_sem,e1]
    ·exact oq rfl fun ev w9 v hR E pr=>by
      have e1:=E.eq pr 1 90;simp[go_sem,e1]
    ·exact oq rfl fun ev w9 v hR E pr=>by
      have e1:=E.eq pr 2 91;have cc:=(hD.x.next hR).cell (j:=0) (by omega);simp[lf]at cc;simp[go_sem,cc,e1]
    ·exact oq rfl fun ev w9 v hR E pr=>by
      have e1:=E.was 3 _;simp[go_sem,e1]
    ·exact oq rfl fun ev w9 v hR E pr=>by
      have e1:=E.eq pr 4 93;have cc:=(hO.next hR).cell (j:=1) (by omega);simp[lf]at cc;simp[go_sem,cc,e1]
    ·exact oq rfl fun ev w9 v hR E pr=>by
      have e1:=E.was 6 _;exact exec_nd rfl e1 (v5.next hR)
    ·exact oq rfl fun ev w9 v hR E pr=>by
      have e1:=E.eq pr 3 92;have e2:=E.eq pr 5 94;simp[go_sem,ht0,htl,e1,e2]
   ·intro ev w9 v hR E hp9
    obtain⟨_,_,_,_,_,_,p6,p7,_⟩:=hp9;have E1:=E.at_ 7 96 rfl (by kernel_rfl) (Nat.le_of_ble_eq_true (by kernel_rfl));have E2:=E.at_ 6 95 rfl (by kernel_rfl) (Nat.le_of_ble_eq_true (by kernel_rfl));rw[p7]at E1;rw[p6]at E2;have h9:=hD.next hR;have g9:=gr_setL g (ndL (psN y.n T) s5) (t*10) w9;have hgn:∀ x,some g=some x->Typed w9 x 27:=fun x e=>GOwn.typed h9.n (x:=x) (by cases e;rfl)
    exact⟨_,exec_boxAt (ndL (psN y.n T) s5) rfl E1 E2 ((GOwn.vhas h9.n (by omega)).elim fun g' ⟨e',_,hv⟩=>by cases e';exact hv) (by show t*10+10<=l.length*10;omega) (by kernel_rfl) (oneAll (by kernel_rfl)),⟨s5,h9.put htL ⟨(psN y.n T),s5⟩ (hO5.next hR)⟩,trivial,blw_row (blw_rb hbl hbs hR) hbs g9 (fun x e=>(GOwn.at h9.n (x:=x) (by cases e;rfl)).1)⟩
   ·intro v9 W9 hF9
    simp only[List.size_toArray,List.length_cons,List.length_nil,Nat.reduceAdd,Nat.reduceSub,List.take_succ_cons,List.take_zero,putL,Nat.zero_add,Act.put,List.setIfInBounds_toArray,List.set_cons_zero,List.set_cons_succ];obtain⟨⟨s6,hC9⟩,_,hbl9⟩:=hF9;have hsm:=pr_same hyk T;have hPn:=hP.put (z':=⟨psN y.n T,s6⟩) hy (by show OkN (psN y.n T);rw[hyk.nep T];exact hyk.pr T) (by show (psN y.n T).id = _;rw[hyk.nep T];exact hsm.1) (by show (psN y.n T).peers = _;rw[hyk.nep T];exact hsm.2) (by show TxL (psN y.n T).log;rw[hyk.nep T];exact prN_tx hyt hT);generalize psK y.n T=kk;go_wp2;simp[bodyPost,results,Tryz.results64,go_sem];exact⟨⟨_,rfl⟩,⟨_,⟨_,_,_,hC9,hPn⟩,by rw[List.length_set]⟩,hbl9⟩
set_option maxRecDepth 100000 in
set_option maxHeartbeats 16000000 in
theorem l12Do4_any (b base:Nat) (l:List Nq) (q:List Mq) (ao:Option Addr) (cap:Nat) (eo:Option Addr) (ec:Nat) (N I:Int) (T:ByteArray) (hT:T.size<=1048576) (w:World) (hbs:base<=w.heap.size) (hbb:base<=b) (hC:ClB w b base l q ao cap eo ec) (hP:ClP l q):Calls Tryz.prog 64 #[.pointer (some ⟨b,0,none⟩),.agg #[.int .i64 4,.int .i64 N,.int .i64 I,.string T]] w fun e w'=>DoA b base l.length ao cap w w' e:=by
 have hq200:=hP.net;have hl5:=hP.len;obtain⟨g,eg,hgb,_⟩:=GOwn.vhas hC.n (by omega);subst eg;have hal:=RB.alloc w (.cells #[.int .i64 4,.int .i64 N,.int .i64 I,.string T] 89);have vO:VHas (w.alloc (.cells #[.int .i64 4,.int .i64 N,.int .i64 I,.string T] 89)) w.heap.size 89 4 (lf [.int .i64 4,.int .i64 N,.int .i64 I,.string T]):=box_new w [.int .i64 4,.int .i64 N,.int .i64 I,.string T] 89;have hbl:=blw_rb (Below.refl base w) hbs hal;replace hC:=hC.next hal;clear hal;go_enter Tryz.func64,Tryz.ntmps64;have o0:=VHas.cell vO (j:=0) (by omega);simp[lf]at o0
 go_wp2_with fail
 clear o0;generalize (w.alloc (.cells #[.int .i64 4,.int .i64 N,.int .i64 I,.string T] 89))=W at vO hbl hC ⊢;refine (l1In_rb 4 1 7 _).mono ?_;rintro e w1 ⟨rfl,hb1⟩;rw[show inB 4 1 7=true from rfl];replace vO:VHas w1 w.heap.size 89 4 (lf [.int .i64 4,.int .i64 N,.int .i64 I,.string T]):=VHas.next vO hb1;replace hC:=hC.next hb1;replace hbl:=blw_rb hbl hbs hb1;clear hb1;have o0:=VHas.cell vO (j:=0) (by omega);simp[lf]at o0
 go_wp2_with fail
 refine (l1In_rb 4 4 6 _).mono ?_;rintro e w2 ⟨rfl,hb1⟩;rw[show inB 4 4 6=true from rfl];replace vO:VHas w2 w.heap.size 89 4 (lf [.int .i64 4,.int .i64 N,.int .i64 I,.string T]):=VHas.next vO hb1;replace hC:=hC.next hb1;replace hbl:=blw_rb hbl hbs hb1;clear hb1 o0
 go_wp2_with fail
 have hd:RB w2 w2.drew:=(Below.refl _ _).drew;have hD:=hC.next hd;have hO:VHas w2.drew w.heap.size 89 4 (lf [.int .i64 4,.int .i64 N,.int .i64 I,.string T]):=VHas.next vO hd;replace hbl:=blw_rb hbl hbs hd;clear hC vO hd;have hw24:IntKind.i64.wrap ((q.length:Int)-1)=((q.length:Int)-1):=by rw[IntKind.wrap_i64];omega
 obtain⟨b25,qb25⟩:∃ b:Bool,b=(inB (I) (0) (((q.length:Int)-1))):=⟨_,rfl⟩
 obtain⟨b26,qb26⟩:∃ b:Bool,b=(!b25):=⟨_,rfl⟩
 refine region_all (by kernel_rfl) (by kernel_rfl) RB RB.refl RB.trans
  [isV (.pointer (some ⟨w.heap.size,2,none⟩)),isV (.int .i64 I),isV (.pointer (some ⟨b,0,none⟩)),isV (.pointer (some ⟨b,0,none⟩)),isV (.pointer (some ⟨b,1,none⟩)),isV (.slice eo q.length ec),isV (.int .i64 (q.length:Int)),isV (.int .i64 ((q.length:Int)-1)),isV (.bool b25),isV (.bool b26)]
  ⟨isV.rb,isV.rb,isV.rb,isV.rb,isV.rb,isV.rb,isV.rb,isV.rb,isV.rb,isV.rb,trivial⟩ rfl ?_ ?_
 ·refine⟨?_,?_,?_,?_,?_,?_,?_,?_,?_,?_,trivial⟩
  ·exact oq rfl fun ev w' v hR E pr=>by
    have e1:=E.was 3 _;simp[go_sem,e1]
  ·exact oq rfl fun ev w' v hR E pr=>by
    have e1:=E.eq pr 0 17;have cc:=(hO.next hR).cell (j:=2) (by omega);simp[lf]at cc;simp[go_sem,cc,e1]
  ·exact oq rfl fun ev w' v hR E pr=>by
    have e1:=E.was 0 _;simp[go_sem,e1]
  ·exact oq rfl fun ev w' v hR E pr=>by
    have e1:=E.eq pr 2 19;simp[go_sem,e1]
  ·exact oq rfl fun ev w' v hR E pr=>by
    have e1:=E.eq pr 3 20;simp[go_sem,e1]
  ·exact oq rfl fun ev w' v hR E pr=>by
    have e1:=E.eq pr 4 21;have cc:=(hD.x.next hR).cell (j:=1) (by omega);simp[lf]at cc;simp[go_sem,cc,e1]
  ·exact oq rfl fun ev w' v hR E pr=>by
    have e1:=E.eq pr 5 22;simp[go_sem,e1]
  ·exact oq rfl fun ev w' v hR E pr=>by
    have e1:=E.eq pr 6 23;simp[go_sem,E.con,hw24,e1]
  ·exact OpOk.ret _ (fun _=>rfl) fun ev w' v hR E pr=>by
    have e1:=E.eq pr 1 18;have e2:=E.eq pr 7 24;refine⟨40,#[.int .i64 I,.int .i64 0,.int .i64 ((q.length:Int)-1)],by simp[go_sem,gv,e1,e2,E.con,E.fn],?_⟩;rw[qb25];exact l1In_rb (I) (0) (((q.length:Int)-1)) _
  ·exact oq rfl fun ev w' v hR E pr=>by
    have e1:=E.eq pr 8 25;simp[go_sem,qb26,e1]
 ·intro v w' hR hp
  obtain⟨_,_,_,_,_,_,_,_,_,p9,_⟩:=hp;replace p9:v 9=.bool b26:=p9;simp only[putL,Nat.zero_add,Nat.reduceAdd,p9,Act.put,List.setIfInBounds_toArray,List.set_cons_zero,List.set_cons_succ];replace hD:=hD.next hR;replace hO:VHas w' w.heap.size 89 4 (lf [.int .i64 4,.int .i64 N,.int .i64 I,.string T]):=VHas.next hO hR;replace hbl:=blw_rb hbl hbs hR;clear hR;rcases Bool.eq_false_or_eq_true (inB I 0 ((q.length:Int)-1)) with hto|hto
  rotate_left
  ·rw[qb26,qb25,hto]
   go_wp2;simp[bodyPost,results,Tryz.results64,go_sem];exact⟨⟨_,rfl⟩,⟨l,⟨_,_,_,hD,hP⟩,rfl⟩,hbl⟩
  rw[qb26,qb25,hto];obtain⟨t,rfl,htL⟩:=inB_nat hto;clear qb26 qb25 hto;have ht0:(0:Int)<=(t:Int):=by omega
  have htl:(t:Int)<(q.length:Int):=by omega
  have o0:=VHas.cell hO (j:=0) (by omega);have o1:=VHas.cell hO (j:=1) (by omega);have o2:=VHas.cell hO (j:=2) (by omega);simp[lf]at o0 o1 o2;have hsb:base<=w'.heap.size:=Nat.le_trans hbs hbl.size;have halL:=RB.alloc w' (.cells #[] 29);replace hD:=hD.next halL;replace hO:VHas (w'.alloc (.cells #[] 29)) w.heap.size 89 4 (lf [.int .i64 4,.int .i64 N,.int .i64 (t:Int),.string T]):=VHas.next hO halL;replace hbl:=blw_rb hbl hbs halL;have o0:=VHas.cell hO (j:=0) (by omega);have o2:=VHas.cell hO (j:=2) (by omega);simp[lf]at o0 o2
  go_wp2_with fail
  clear o0 o1 o2;refine (l12Deliver_any b base l q _ cap eo ec t _ (Nat.le_trans hbs hbl.size) hbb hD hP htL).mono ?_;rintro e w8 ⟨rfl,⟨l8,hS8,hl8⟩,hbl8⟩
  go_wp2_with fail
  refine (l12Send_nil b base _ _ cap _ _ _ hS8).mono ?_;rintro e w9 ⟨rfl,e9⟩;subst e9;go_wp2;simp[bodyPost,results,Tryz.results64,go_sem];exact⟨⟨_,rfl⟩,⟨l8,hS8,hl8⟩,blw_trans hbl hbl8 hbs⟩
set_option maxRecDepth 100000 in
set_option maxHeartbeats 16000000 in
theorem l12Do5_any (b base:Nat) (l:List Nq) (q:List Mq) (ao:Option Addr) (cap:Nat) (eo:Option Addr) (ec:Nat) (N I:Int) (T:ByteArray) (hT:T.size<=1048576) (w:World) (hbs:base<=w.heap.size) (hbb:base<=b) (hC:ClB w b base l q ao cap eo ec) (hP:ClP l q):Calls Tryz.prog 64 #[.pointer (some ⟨b,0,none⟩),.agg #[.int .i64 5,.int .i64 N,.int .i64 I,.string T]] w fun e w'=>DoA b base l.length ao cap w w' e:=by
 have hq200:=hP.net;have hl5:=hP.len;obtain⟨g,eg,hgb,_⟩:=GOwn.vhas hC.n (by omega);subst eg;have hal:=RB.alloc w (.cells #[.int .i64 5,.int .i64 N,.int .i64 I,.string T] 89);have vO:VHas (w.alloc (.cells #[.int .i64 5,.int .i64 N,.int .i64 I,.string T] 89)) w.heap.size 89 4 (lf [.int .i64 5,.int .i64 N,.int .i64 I,.string T]):=box_new w [.int .i64 5,.int .i64 N,.int .i64 I,.string T] 89;have hbl:=blw_rb (Below.refl base w) hbs hal;replace hC:=hC.next hal;clear hal;go_enter Tryz.func64,Tryz.ntmps64;have o0:=VHas.cell vO (j:=0) (by omega);simp[lf]at o0
 go_wp2_with fail
 clear o0;generalize (w.alloc (.cells #[.int .i64 5,.int .i64 N,.int .i64 I,.string T] 89))=W at vO hbl hC ⊢;refine (l1In_rb 5 1 7 _).mono ?_;rintro e w1 ⟨rfl,hb1⟩;rw[show inB 5 1 7=true from rfl];replace vO:VHas w1 w.heap.size 89 4 (lf [.int .i64 5,.int .i64 N,.int .i64 I,.string T]):=VHas.next vO hb1;replace hC:=hC.next hb1;replace hbl:=blw_rb hbl hbs hb1;clear hb1;have o0:=VHas.cell vO (j:=0) (by omega);simp[lf]at o0
 go_wp2_with fail
 refine (l1In_rb 5 4 6 _).mono ?_;rintro e w2 ⟨rfl,hb1⟩;rw[show inB 5 4 6=true from rfl];replace vO:VHas w2 w.heap.size 89 4 (lf [.int .i64 5,.int .i64 N,.int .i64 I,.string T]):=VHas.next vO hb1;replace hC:=hC.next hb1;replace hbl:=blw_rb hbl hbs hb1;clear hb1 o0
 go_wp2_with fail
 have hd:RB w2 w2.drew:=(Below.refl _ _).drew;have hD:=hC.next hd;have hO:VHas w2.drew w.heap.size 89 4 (lf [.int .i64 5,.int .i64 N,.int .i64 I,.string T]):=VHas.next vO hd;replace hbl:=blw_rb hbl hbs hd;clear hC vO hd;have hw24:IntKind.i64.wrap ((q.length:Int)-1)=((q.length:Int)-1):=by rw[IntKind.wrap_i64];omega
 obtain⟨b25,qb25⟩:∃ b:Bool,b=(inB (I) (0) (((q.length:Int)-1))):=⟨_,rfl⟩
 obtain⟨b26,qb26⟩:∃ b:Bool,b=(!b25):=⟨_,rfl⟩
 refine region_all (by kernel_rfl) (by kernel_rfl) RB RB.refl RB.trans
  [isV (.pointer (some ⟨w.heap.size,2,none⟩)),isV (.int .i64 I),isV (.pointer (some ⟨b,0,none⟩)),isV (.pointer (some ⟨b,0,none⟩)),isV (.pointer (some ⟨b,1,none⟩)),isV (.slice eo q.length ec),isV (.int .i64 (q.length:Int)),isV (.int .i64 ((q.length:Int)-1)),isV (.bool b25),isV (.bool b26)]
  ⟨isV.rb,isV.rb,isV.rb,isV.rb,isV.rb,isV.rb,isV.rb,isV.rb,isV.rb,isV.rb,trivial⟩ rfl ?_ ?_
 ·refine⟨?_,?_,?_,?_,?_,?_,?_,?_,?_,?_,trivial⟩
  ·exact oq rfl fun ev w' v hR E pr=>by
    have e1:=E.was 3 _;simp[go_sem,e1]
  ·exact oq rfl fun ev w' v hR E pr=>by
    have e1:=E.eq pr 0 17;have cc:=(hO.next hR).cell (j:=2) (by omega);simp[lf]at cc;simp[go_sem,cc,e1]
  ·exact oq rfl fun ev w' v hR E pr=>by
    have e1:=E.was 0 _;simp[go_sem,e1]
  ·exact oq rfl fun ev w' v hR E pr=>by
    have e1:=E.eq pr 2 19;simp[go_sem,e1]
  ·exact oq rfl fun ev w' v hR E pr=>by
    have e1:=E.eq pr 3 20;simp[go_sem,e1]
  ·exact oq rfl fun ev w' v hR E pr=>by
    have e1:=E.eq pr 4 21;have cc:=(hD.x.next hR).cell (j:=1) (by omega);simp[lf]at cc;simp[go_sem,cc,e1]
  ·exact oq rfl fun ev w' v hR E pr=>by
    have e1:=E.eq pr 5 22;simp[go_sem,e1]
  ·exact oq rfl fun ev w' v hR E pr=>by
    have e1:=E.eq pr 6 23;simp[go_sem,E.con,hw24,e1]
  ·exact OpOk.ret _ (fun _=>rfl) fun ev w' v hR E pr=>by
    have e1:=E.eq pr 1 18;have e2:=E.eq pr 7 24;refine⟨40,#[.int .i64 I,.int .i64 0,.int .i64 ((q.length:Int)-1)],by simp[go_sem,gv,e1,e2,E.con,E.fn],?_⟩;rw[qb25];exact l1In_rb (I) (0) (((q.length:Int)-1)) _
  ·exact oq rfl fun ev w' v hR E pr=>by
    have e1:=E.eq pr 8 25;simp[go_sem,qb26,e1]
 ·intro v w' hR hp
  obtain⟨_,_,_,_,_,_,_,_,_,p9,_⟩:=hp;replace p9:v 9=.bool b26:=p9;simp only[putL,Nat.zero_add,Nat.reduceAdd,p9,Act.put,List.setIfInBounds_toArray,List.set_cons_zero,List.set_cons_succ];replace hD:=hD.next hR;replace hO:VHas w' w.heap.size 89 4 (lf [.int .i64 5,.int .i64 N,.int .i64 I,.string T]):=VHas.next hO hR;replace hbl:=blw_rb hbl hbs hR;clear hR;rcases Bool.eq_false_or_eq_true (inB I 0 ((q.length:Int)-1)) with hto|hto
  rotate_left
  ·rw[qb26,qb25,hto]
   go_wp2;simp[bodyPost,results,Tryz.results64,go_sem];exact⟨⟨_,rfl⟩,⟨l,⟨_,_,_,hD,hP⟩,rfl⟩,hbl⟩
  rw[qb26,qb25,hto];obtain⟨t,rfl,htL⟩:=inB_nat hto;clear qb26 qb25 hto;have ht0:(0:Int)<=(t:Int):=by omega
  have htl:(t:Int)<(q.length:Int):=by omega
  have o0:=VHas.cell hO (j:=0) (by omega);have o1:=VHas.cell hO (j:=1) (by omega);have o2:=VHas.cell hO (j:=2) (by omega);simp[lf]at o0 o1 o2;have hsb:base<=w'.heap.size:=Nat.le_trans hbs hbl.size;have halL:=RB.alloc w' (.cells #[] 29);replace hD:=hD.next halL;replace hO:VHas (w'.alloc (.cells #[] 29)) w.heap.size 89 4 (lf [.int .i64 5,.int .i64 N,.int .i64 (t:Int),.string T]):=VHas.next hO halL;replace hbl:=blw_rb hbl hbs halL;have o0:=VHas.cell hO (j:=0) (by omega);simp[lf]at o0
  go_wp2_with fail
  clear o0 o1 o2;have hd:RB (w'.alloc (.cells #[] 29)) (w'.alloc (.cells #[] 29)).drew:=(Below.refl _ _).drew;replace hD:=hD.next hd;replace hO:VHas (w'.alloc (.cells #[] 29)).drew w.heap.size 89 4 (lf [.int .i64 5,.int .i64 N,.int .i64 (t:Int),.string T]):=VHas.next hO hd;replace hbl:=blw_rb hbl hbs hd;have hbd:base<=(w'.alloc (.cells #[] 29)).drew.heap.size:=Nat.le_trans hbs hbl.size;have hqc:q.length<=ec:=GOwn.cap hD.m.o;clear hd;have hw122:IntKind.i64.wrap ((t:Int)+1)=((t:Int)+1):=by rw[IntKind.wrap_i64];omega
  refine region_mid (by kernel_rfl) (by kernel_rfl) (by kernel_rfl) 18 [1,2,3,4,5,6,7,8,9,10,11,12,13,14,15,16,17] [0,19,20] (by kernel_rfl) (by kernel_rfl) (fun _ _=>True)
   (fun W5=>RB (w'.alloc (.cells #[] 29)).drew W5) (fun a9 b9 h hb=>RB.trans _ _ _ h hb)
   [isV (.pointer (some ⟨b,0,none⟩)),LE (w'.alloc (.cells #[] 29)).drew.heap.size 29,isV (.pointer (some ⟨b,0,none⟩)),isV (.pointer (some ⟨b,0,none⟩)),isV (.pointer (some ⟨b,1,none⟩)),isV (.slice eo q.length ec),isV (.pointer (some ⟨w.heap.size,2,none⟩)),isV (.int .i64 (t:Int)),SlM (q.take t),NtH (w'.alloc (.cells #[] 29)).drew.heap.size base (q.take t),isV (.pointer (some ⟨b,0,none⟩)),isV (.pointer (some ⟨b,0,none⟩)),isV (.pointer (some ⟨b,1,none⟩)),isV (.slice eo q.length ec),isV (.pointer (some ⟨w.heap.size,2,none⟩)),isV (.int .i64 (t:Int)),isV (.int .i64 ((t:Int)+1)),SlM (q.drop (t+1)),NtH (w'.alloc (.cells #[] 29)).drew.heap.size base (q.take t++q.drop (t+1)),isV (.pointer (some ⟨b,0,none⟩)),isV (.pointer (some ⟨b,1,none⟩))]
   ⟨isV.rb,LE.rb,isV.rb,isV.rb,isV.rb,isV.rb,isV.rb,isV.rb,SlM.rb,NtH.rb,isV.rb,isV.rb,isV.rb,isV.rb,isV.rb,isV.rb,isV.rb,SlM.rb,NtH.rb,isV.rb,isV.rb,trivial⟩ rfl ?_ ?_ ?_ ?_ _ rfl rfl rfl
   (fun v9 W9=>∃ a c,ClB W9 b base l (q.take t++q.drop (t+1)) (some ⟨g,0,none⟩) cap a c/\(True)/\Below base w W9) ?_ ?_
  ·intro i hi v w1 w2 h hx
   simp only[List.mem_cons,List.not_mem_nil,or_false]at hi;rcases hi with rfl|rfl|rfl<;>exact h
  ·intro i hi o ho
   simp only[List.mem_cons,List.not_mem_nil,or_false]at hi;rcases hi with rfl|rfl|rfl|rfl|rfl|rfl|rfl|rfl|rfl|rfl|rfl|rfl|rfl|rfl|rfl|rfl|rfl<;>(obtain rfl:=Option.some.inj ho)
   ·refine OpOk.val rfl fun ev w9 v hR E pr=>?_
    exact⟨.slice (some ⟨w9.heap.size,0,none⟩) 0 0,w9.alloc (.cells #[] 29),(by (simp[go_sem])<;>rfl),RB.alloc _ _,LE.new w9 _ 29 hR.size⟩
   ·exact oq rfl fun ev w9 v hR E pr=>by
     have e1:=E.was 0 _;simp[go_sem,e1]
   ·exact oq rfl fun ev w9 v hR E pr=>by
     have e1:=E.eq pr 2 108;simp[go_sem,e1]
   ·exact oq rfl fun ev w9 v hR E pr=>by
     have e1:=E.eq pr 3 109;simp[go_sem,e1]
   ·exact oq rfl fun ev w9 v hR E pr=>by
     have e1:=E.eq pr 4 110;have cc:=(hD.x.next hR).cell (j:=1) (by omega);simp[lf]at cc;simp[go_sem,cc,e1]
   ·exact oq rfl fun ev w9 v hR E pr=>by
     have e1:=E.was 3 _;simp[go_sem,e1]
   ·exact oq rfl fun ev w9 v hR E pr=>by
     have e1:=E.eq pr 6 112;have cc:=(hO.next hR).cell (j:=2) (by omega);simp[lf]at cc;simp[go_sem,cc,e1]
   ·refine OpOk.val rfl fun ev w9 v hR E pr=>?_
    have e1:=E.eq pr 5 111;have e2:=E.eq pr 7 113;exact toM_ok rfl e1 e2 (by omega) hqc ((GOwn.lrow hD.m.o (nlc_len q)).next hR)
   ·refine OpOk.val rfl fun ev w9 v hR E pr=>?_
    have e1:LE (w'.alloc (.cells #[] 29)).drew.heap.size 29 (ev (.tmp 107)) w9:=E.get pr 1 107;have e2:SlM (q.take t) (ev (.tmp 114)) w9:=E.get pr 8 114;exact catM_ok rfl e1 e2 (fun z h=>(hD.m.e z (List.mem_of_mem_take h)).next hR) (by simp;omega) hR.size
   ·exact oq rfl fun ev w9 v hR E pr=>by
     have e1:=E.was 0 _;simp[go_sem,e1]
   ·exact oq rfl fun ev w9 v hR E pr=>by
     have e1:=E.eq pr 10 116;simp[go_sem,e1]
   ·exact oq rfl fun ev w9 v hR E pr=>by
     have e1:=E.eq pr 11 117;simp[go_sem,e1]
   ·exact oq rfl fun ev w9 v hR E pr=>by
     have e1:=E.eq pr 12 118;have cc:=(hD.x.next hR).cell (j:=1) (by omega);simp[lf]at cc;simp[go_sem,cc,e1]
   ·exact oq rfl fun ev w9 v hR E pr=>by
     have e1:=E.was 3 _;simp[go_sem,e1]
   ·exact oq rfl fun ev w9 v hR E pr=>by
     have e1:=E.eq pr 14 120;have cc:=(hO.next hR).cell (j:=2) (by omega);simp[lf]at cc;simp[go_sem,cc,e1]
   ·exact oq rfl fun ev w9 v hR E pr=>by
     have e1:=E.eq pr 15 121;simp[go_sem,E.con,hw122,e1]
   ·refine OpOk.val rfl fun ev w9 v hR E pr=>?_
    have e1:=E.eq pr 13 119;have e2:=E.eq pr 16 122;exact fromM_ok rfl e1 e2 (by omega) hqc ((GOwn.lrow hD.m.o (nlc_len q)).next hR)
  ·intro i h1 h2 h3 o ho
   have hc3:i=0\/i=19\/i=20:=by
    simp at h1 h3;omega
   rcases hc3 with rfl|rfl|rfl<;>(obtain rfl:=Option.some.inj ho)
   ·exact LateOk.get _ (fun _=>rfl) fun ev w9 v hR E pr=>by
     have e1:=E.was 0 _;simp[go_sem,E.con,e1]
   ·exact LateOk.get _ (fun _=>rfl) fun ev w9 v hR E pr=>by
     have e1:ev (.tmp 106)=.pointer (some ⟨b,0,none⟩):=E.kept pr 0 106;simp[go_sem,E.con,e1]
   ·exact LateOk.get _ (fun _=>rfl) fun ev w9 v hR E pr=>by
     have e1:ev (.tmp 125)=.pointer (some ⟨b,0,none⟩):=E.kept pr 19 125;simp[go_sem,E.con,e1]
  ·intro o ho
   obtain rfl:=Option.some.inj ho;refine MidOk.val fun ev w9 v hR E pr=>?_
   have e1:NtH (w'.alloc (.cells #[] 29)).drew.heap.size base (q.take t) (ev (.tmp 115)) w9:=E.get pr 9 115;have e2:SlM (q.drop (t+1)) (ev (.tmp 123)) w9:=E.get pr 17 123;exact appM_mid rfl e1 e2 (fun z h=>(hD.m.e z (List.mem_of_mem_drop h)).next hR) (by simp;omega) hR
  ·rintro ev w9 v hP9 E hk
   have k1:=hk 20 (by simp);have k2:=hk 18 (by simp);have E1:=E.at_ 20 126 rfl (by kernel_rfl) (Nat.le_of_ble_eq_true (by kernel_rfl));have E2:=E.at_ 18 124 rfl (by kernel_rfl) (Nat.le_of_ble_eq_true (by kernel_rfl));obtain⟨a,c,e1,hN9,hE9⟩:NtH (w'.alloc (.cells #[] 29)).drew.heap.size base (q.take t++q.drop (t+1)) (v 18) w9:=k2;have e2:v 20=.pointer (some ⟨b,1,none⟩):=k1;rw[e2]at E1;rw[e1]at E2;have h9:=hD.next hP9;have g9:=gr_setCell w9 b 1 (.slice a (q.take t++q.drop (t+1)).length c);have hT:∀ x,some b=some x->Typed w9 x 54:=fun x e=>by cases e;exact VHas.typed h9.x
   exact⟨_,exec_cell rfl E1 E2 h9.x (by omega) (by kernel_rfl) rfl (oneV rfl),fun _ _=>⟨a,c,⟨(VHas.set h9.x 1 _).congr (fun j hj=>by
    have:j=0\/j=1:=by omega
    rcases this with rfl|rfl<;>simp[lf]),GOwn.gr h9.n g9 hT (by decide),⟨GOwn.from (GOwn.gr hN9 g9 hT (by decide)) hbd,fun y hy=>(hE9 y hy).gr g9 hT (by decide)⟩,fun y hy=>(h9.nl y hy).gr g9 hT (by decide) (by decide)⟩,trivial,blw_row (blw_rb hbl hbs hP9) hbs g9 (fun x e=>by cases e;exact hbb)⟩⟩
  ·intro v8 W8 hF8
   simp only[putL,Nat.zero_add,Nat.reduceAdd,Act.put,List.setIfInBounds_toArray,List.set_cons_zero,List.set_cons_succ];obtain⟨a9,c9,hC9,_,hbl9⟩:=hF8;have hPn:=hP.less t
   go_wp2_with fail
   refine (l12Send_nil b base _ _ cap _ _ _ ⟨_,_,_,hC9,hPn⟩).mono ?_;rintro e w9 ⟨rfl,e9⟩;subst e9;go_wp2;simp[bodyPost,results,Tryz.results64,go_sem];exact⟨⟨_,rfl⟩,⟨l,⟨_,_,_,hC9,hPn⟩,rfl⟩,hbl9⟩
set_option maxRecDepth 100000 in
set_option maxHeartbeats 16000000 in
theorem l12Do6_any (b base:Nat) (l:List Nq) (q:List Mq) (ao:Option Addr) (cap:Nat) (eo:Option Addr) (ec:Nat) (N I:Int) (T:ByteArray) (hT:T.size<=1048576) (w:World) (hbs:base<=w.heap.size) (hbb:base<=b) (hC:ClB w b base l q ao cap eo ec) (hP:ClP l q):Calls Tryz.prog 64 #[.pointer (some ⟨b,0,none⟩),.agg #[.int .i64 6,.int .i64 N,.int .i64 I,.string T]] w fun e w'=>DoA b base l.length ao cap w w' e:=by
 have hq200:=hP.net;have hl5:=hP.len;obtain⟨g,eg,hgb,_⟩:=GOwn.vhas hC.n (by omega);subst eg;have hal:=RB.alloc w (.cells #[.int .i64 6,.int .i64 N,.int .i64 I,.string T] 89);have vO:VHas (w.alloc (.cells #[.int .i64 6,.int .i64 N,.int .i64 I,.string T] 89)) w.heap.size 89 4 (lf [.int .i64 6,.int .i64 N,.int .i64 I,.string T]):=box_new w [.int .i64 6,.int .i64 N,.int .i64 I,.string T] 89;have hbl:=blw_rb (Below.refl base w) hbs hal;replace hC:=hC.next hal;clear hal;go_enter Tryz.func64,Tryz.ntmps64;have o0:=VHas.cell vO (j:=0) (by omega);simp[lf]at o0
 go_wp2_with fail
 clear o0;generalize (w.alloc (.cells #[.int .i64 6,.int .i64 N,.int .i64 I,.string T] 89))=W at vO hbl hC ⊢;refine (l1In_rb 6 1 7 _).mono ?_;rintro e w1 ⟨rfl,hb1⟩;rw[show inB 6 1 7=true from rfl];replace vO:VHas w1 w.heap.size 89 4 (lf [.int .i64 6,.int .i64 N,.int .i64 I,.string T]):=VHas.next vO hb1;replace hC:=hC.next hb1;replace hbl:=blw_rb hbl hbs hb1;clear hb1;have o0:=VHas.cell vO (j:=0) (by omega);simp[lf]at o0
 go_wp2_with fail
 refine (l1In_rb 6 4 6 _).mono ?_;rintro e w2 ⟨rfl,hb1⟩;rw[show inB 6 4 6=true from rfl];replace vO:VHas w2 w.heap.size 89 4 (lf [.int .i64 6,.int .i64 N,.int .i64 I,.string T]):=VHas.next vO hb1;replace hC:=hC.next hb1;replace hbl:=blw_rb hbl hbs hb1;clear hb1 o0
 go_wp2_with fail
 have hd:RB w2 w2.drew:=(Below.refl _ _).drew;have hD:=hC.next hd;have hO:VHas w2.drew w.heap.size 89 4 (lf [.int .i64 6,.int .i64 N,.int .i64 I,.string T]):=VHas.next vO hd;replace hbl:=blw_rb hbl hbs hd;clear hC vO hd;have hw24:IntKind.i64.wrap ((q.length:Int)-1)=((q.length:Int)-1):=by rw[IntKind.wrap_i64];omega
 obtain⟨b25,qb25⟩:∃ b:Bool,b=(inB (I) (0) (((q.length:Int)-1))):=⟨_,rfl⟩
 obtain⟨b26,qb26⟩:∃ b:Bool,b=(!b25):=⟨_,rfl⟩
 refine region_all (by kernel_rfl) (by kernel_rfl) RB RB.refl RB.trans
  [isV (.pointer (some ⟨w.heap.size,2,none⟩)),isV (.int .i64 I),isV (.pointer (some ⟨b,0,none⟩)),isV (.pointer (some ⟨b,0,none⟩)),isV (.pointer (some ⟨b,1,none⟩)),isV (.slice eo q.length ec),isV (.int .i64 (q.length:Int)),isV (.int .i64 ((q.length:Int)-1)),isV (.bool b25),isV (.bool b26)]
  ⟨isV.rb,isV.rb,isV.rb,isV.rb,isV.rb,isV.rb,isV.rb,isV.rb,isV.rb,isV.rb,trivial⟩ rfl ?_ ?_
 ·refine⟨?_,?_,?_,?_,?_,?_,?_,?_,?_,?_,trivial⟩
  ·exact oq rfl fun ev w' v hR E pr=>by
    have e1:=E.was 3 _;simp[go_sem,e1]
  ·exact oq rfl fun ev w' v hR E pr=>by
    have e1:=E.eq pr 0 17;have cc:=(hO.next hR).cell (j:=2) (by omega);simp[lf]at cc;simp[go_sem,cc,e1]
  ·exact oq rfl fun ev w' v hR E pr=>by
    have e1:=E.was 0 _;simp[go_sem,e1]
  ·exact oq rfl fun ev w' v hR E pr=>by
    have e1:=E.eq pr 2 19;simp[go_sem,e1]
  ·exact oq rfl fun ev w' v hR E pr=>by
    have e1:=E.eq pr 3 20;simp[go_sem,e1]
  ·exact oq rfl fun ev w' v hR E pr=>by
    have e1:=E.eq pr 4 21;have cc:=(hD.x.next hR).cell (j:=1) (by omega);simp[lf]at cc;simp[go_sem,cc,e1]
  ·exact oq rfl fun ev w' v hR E pr=>by
    have e1:=E.eq pr 5 22;simp[go_sem,e1]
  ·exact oq rfl fun ev w' v hR E pr=>by
    have e1:=E.eq pr 6 23;simp[go_sem,E.con,hw24,e1]
  ·exact OpOk.ret _ (fun _=>rfl) fun ev w' v hR E pr=>by
    have e1:=E.eq pr 1 18;have e2:=E.eq pr 7 24;refine⟨40,#[.int .i64 I,.int .i64 0,.int .i64 ((q.length:Int)-1)],by simp[go_sem,gv,e1,e2,E.con,E.fn],?_⟩;rw[qb25];exact l1In_rb (I) (0) (((q.length:Int)-1)) _
  ·exact oq rfl fun ev w' v hR E pr=>by
    have e1:=E.eq pr 8 25;simp[go_sem,qb26,e1]
 ·intro v w' hR hp
  obtain⟨_,_,_,_,_,_,_,_,_,p9,_⟩:=hp;replace p9:v 9=.bool b26:=p9;simp only[putL,Nat.zero_add,Nat.reduceAdd,p9,Act.put,List.setIfInBounds_toArray,List.set_cons_zero,List.set_cons_succ];replace hD:=hD.next hR;replace hO:VHas w' w.heap.size 89 4 (lf [.int .i64 6,.int .i64 N,.int .i64 I,.string T]):=VHas.next hO hR;replace hbl:=blw_rb hbl hbs hR;clear hR;rcases Bool.eq_false_or_eq_true (inB I 0 ((q.length:Int)-1)) with hto|hto
  rotate_left
  ·rw[qb26,qb25,hto]
   go_wp2;simp[bodyPost,results,Tryz.results64,go_sem];exact⟨⟨_,rfl⟩,⟨l,⟨_,_,_,hD,hP⟩,rfl⟩,hbl⟩
  rw[qb26,qb25,hto];obtain⟨t,rfl,htL⟩:=inB_nat hto;clear qb26 qb25 hto;have ht0:(0:Int)<=(t:Int):=by omega
  have htl:(t:Int)<(q.length:Int):=by omega
  have o0:=VHas.cell hO (j:=0) (by omega);have o1:=VHas.cell hO (j:=1) (by omega);have o2:=VHas.cell hO (j:=2) (by omega);simp[lf]at o0 o1 o2;have hsb:base<=w'.heap.size:=Nat.le_trans hbs hbl.size;obtain⟨ge,ege,hgeb,_⟩:=GOwn.vhas hD.m.o (by omega);subst ege;obtain⟨z,hz⟩:∃ z,q[t]?=some z:=⟨q[t],by simp[htL]⟩
  have hzm:z∈q:=List.mem_of_getElem? hz;have hzw:=hP.ms z hzm;have hD0:=hD;have hbl0:=hbl;have hA0:∀ x,(Value.slice (some ⟨ge,0,none⟩) q.length ec).ownBlock=some x->x<w'.heap.size:=fun x e=>(GOwn.at hD.m.o e).2
  have halL:=RB.alloc w' (.cells #[] 29);replace hD:=hD.next halL;replace hO:VHas (w'.alloc (.cells #[] 29)) w.heap.size 89 4 (lf [.int .i64 6,.int .i64 N,.int .i64 (t:Int),.string T]):=VHas.next hO halL;replace hbl:=blw_rb hbl hbs halL;have o0:=VHas.cell hO (j:=0) (by omega);simp[lf]at o0
  go_wp2_with fail
  clear o0 o1 o2;have hd:RB (w'.alloc (.cells #[] 29)) (w'.alloc (.cells #[] 29)).drew:=(Below.refl _ _).drew;have hNe:NetO (w'.alloc (.cells #[] 29)).drew w'.heap.size (some ⟨w'.heap.size,0,none⟩) 0 []:=NetO.next ⟨GOwn.empty _ _ _ _,fun z hz=>by cases hz⟩ hd;have hRw:RB w' (w'.alloc (.cells #[] 29)).drew:=RB.trans _ _ _ halL hd;have hsw:w'.heap.size<=(w'.alloc (.cells #[] 29)).drew.heap.size:=hRw.size;replace hD:=hD.next hd;replace hO:VHas (w'.alloc (.cells #[] 29)).drew w.heap.size 89 4 (lf [.int .i64 6,.int .i64 N,.int .i64 (t:Int),.string T]):=VHas.next hO hd;have hzE:=hD.m.e z hzm;clear hd halL
  refine region_asg2 (by kernel_rfl) (by kernel_rfl) RB RB.refl RB.trans
   [isV (.slice (some ⟨w'.heap.size,0,none⟩) 0 0),isV (.pointer (some ⟨b,0,none⟩)),isV (.pointer (some ⟨b,0,none⟩)),isV (.pointer (some ⟨b,1,none⟩)),isV (.slice (some ⟨ge,0,none⟩) q.length ec),isV (.pointer (some ⟨w.heap.size,2,none⟩)),isV (.int .i64 (t:Int)),isV (.pointer (some ⟨ge,t*9,none⟩)),isV (msV z.m z.eo z.ec),MgV w'.heap.size z.m,Mg1 w'.heap.size z.m]
   ⟨isV.rb,isV.rb,isV.rb,isV.rb,isV.rb,isV.rb,isV.rb,isV.rb,isV.rb,MgV.rb,Mg1.rb,trivial⟩ (by kernel_rfl) _ _ rfl rfl (by kernel_rfl) (by kernel_rfl) (by kernel_rfl) ?_
   (fun v u w9=>NetV w'.heap.size [z.m] u w9/\RB w' w9) ?_ ?_
  ·simp only[List.size_toArray,List.length_cons,List.length_nil,Nat.reduceAdd,Nat.reduceSub,List.take_succ_cons,List.take_zero]
   refine⟨?_,?_,?_,?_,?_,?_,?_,?_,?_,?_,?_,trivial⟩
   ·exact oq rfl fun ev w9 v hR E pr=>by
     have e1:=E.was 5 _;simp[go_sem,e1]
   ·exact oq rfl fun ev w9 v hR E pr=>by
     have e1:=E.was 0 _;simp[go_sem,e1]
   ·exact oq rfl fun ev w9 v hR E pr=>by
     have e1:=E.eq pr 1 130;simp[go_sem,e1]
   ·exact oq rfl fun ev w9 v hR E pr=>by
     have e1:=E.eq pr 2 131;simp[go_sem,e1]
   ·exact oq rfl fun ev w9 v hR E pr=>by
     have e1:=E.eq pr 3 132;have cc:=(hD.x.next hR).cell (j:=1) (by omega);simp[lf]at cc;simp[go_sem,cc,e1]
   ·exact oq rfl fun ev w9 v hR E pr=>by
     have e1:=E.was 3 _;simp[go_sem,e1]
   ·exact oq rfl fun ev w9 v hR E pr=>by
     have e1:=E.eq pr 5 134;have cc:=(hO.next hR).cell (j:=2) (by omega);simp[lf]at cc;simp[go_sem,cc,e1]
   ·exact oq rfl fun ev w9 v hR E pr=>by
     have e1:=E.eq pr 4 133;have e2:=E.eq pr 6 135;simp[go_sem,ht0,htl,e1,e2]
   ·exact oq rfl fun ev w9 v hR E pr=>by
     have e1:=E.eq pr 7 136;exact exec_msAt rfl e1 (GOwn.next hD.m.o hR) hz
   ·refine OpOk.call rfl fun ev w9 v hR E pr=>?_
    have e1:=E.eq pr 8 137;refine⟨98,#[msV z.m z.eo z.ec],by simp[go_sem,e1,E.fn],?_⟩;refine (l12Message_any z.m z.eo z.ec hzw.z.l w9 (hzE.next hR).row).mono ?_;rintro e w8 ⟨hm,⟨v',rfl⟩,hb⟩;obtain⟨a,c,e2,hO2⟩:=hm;exact⟨_,rfl,hb,a,c,e2,GOwn.from hO2 (Nat.le_trans hsw hR.size)⟩
   ·refine OpOk.val rfl fun ev w9 v hR E pr=>?_
    obtain⟨a,c,e1,ho⟩:MgV w'.heap.size z.m (ev (.tmp 138)) w9:=E.get pr 9 138;exact⟨.slice (some ⟨w9.heap.size,0,none⟩) 1 1,w9.alloc (.cells (msL z.m a c).toArray 29),(by (simp[go_sem,e1])<;>rfl),RB.alloc _ _,_,a,c,rfl,msB_new w9 z.m a c,ho.next (RB.alloc _ _)⟩
  ·intro ev w9 v hR E hp
   obtain⟨p0,_,_,_,_,_,_,_,_,_,p10,_⟩:=hp;have E0:=E.at_ 0 129 rfl (by kernel_rfl) (Nat.le_of_ble_eq_true (by kernel_rfl));have E1:=E.at_ 10 139 rfl (by kernel_rfl) (Nat.le_of_ble_eq_true (by kernel_rfl));have hN9:=hNe.next hR;refine ex_mono (app_ok (l:=[]) rfl (E0.trans p0) hN9 (by rw[E1];exact p10) (by simp) (Nat.le_trans hsw hR.size)) ?_;rintro u w8 ⟨hv,hg⟩;exact⟨by simpa using hv,rb_row (RB.trans _ _ _ hRw hR) hg (fun x e=>(GOwn.at hN9.o e).1)⟩
  ·rintro v u w9 ⟨hv9,hR9⟩
   simp only[List.size_toArray,List.length_cons,List.length_nil,Nat.reduceAdd,Nat.reduceSub,List.take_succ_cons,List.take_zero,putL,Nat.zero_add,Act.put,List.setIfInBounds_toArray,List.set_cons_zero,List.set_cons_succ];refine⟨u,by simp[go_sem],?_⟩;have hC9:=hD0.next hR9;have hbl9:=blw_rb hbl0 hbs hR9;have hS8:SnV w' u w9:=⟨_,hv9,fun m hm=>by rw[List.mem_singleton.1 hm];exact hzw,by simp⟩
   have hszW:w'.heap.size<=w9.heap.size:=hR9.size;clear hv9
   go_wp2_with fail
   refine (l12Send_val b base _ q _ cap (some ⟨ge,0,none⟩) ec u w' _ hsb hszW hbb hC9 hA0 hP hS8).mono ?_;rintro e w10 ⟨rfl,hS9,hbl9'⟩;go_wp2;simp[bodyPost,results,Tryz.results64,go_sem];exact⟨⟨_,rfl⟩,⟨_,hS9,rfl⟩,blw_trans hbl9 hbl9' hbs⟩
set_option maxRecDepth 100000 in
set_option maxHeartbeats 16000000 in
theorem l12Do7_any (b base:Nat) (l:List Nq) (q:List Mq) (ao:Option Addr) (cap:Nat) (eo:Option Addr) (ec:Nat) (N I:Int) (T:ByteArray) (hT:T.size<=1048576) (w:World) (hbs:base<=w.heap.size) (hbb:base<=b) (hC:ClB w b base l q ao cap eo ec) (hP:ClP l q):Calls Tryz.prog 64 #[.pointer (some ⟨b,0,none⟩),.agg #[.int .i64 7,.int .i64 N,.int .i64 I,.string T]] w fun e w'=>DoA b base l.length ao cap w w' e:=by
 have hq200:=hP.net;have hl5:=hP.len;obtain⟨g,eg,hgb,_⟩:=GOwn.vhas hC.n (by omega);subst eg;have hal:=RB.alloc w (.cells #[.int .i64 7,.int .i64 N,.int .i64 I,.string T] 89);have vO:VHas (w.alloc (.cells #[.int .i64 7,.int .i64 N,.int .i64 I,.string T] 89)) w.heap.size 89 4 (lf [.int .i64 7,.int .i64 N,.int .i64 I,.string T]):=box_new w [.int .i64 7,.int .i64 N,.int .i64 I,.string T] 89;have hbl:=blw_rb (Below.refl base w) hbs hal;replace hC:=hC.next hal;clear hal;go_enter Tryz.func64,Tryz.ntmps64;have o0:=VHas.cell vO (j:=0) (by omega);simp[lf]at o0
 go_wp2_with fail
 clear o0;generalize (w.alloc (.cells #[.int .i64 7,.int .i64 N,.int .i64 I,.string T] 89))=W at vO hbl hC ⊢;refine (l1In_rb 7 1 7 _).mono ?_;rintro e w1 ⟨rfl,hb1⟩;rw[show inB 7 1 7=true from rfl];replace vO:VHas w1 w.heap.size 89 4 (lf [.int .i64 7,.int .i64 N,.int .i64 I,.string T]):=VHas.next vO hb1;replace hC:=hC.next hb1;replace hbl:=blw_rb hbl hbs hb1;clear hb1;have o0:=VHas.cell vO (j:=0) (by omega);simp[lf]at o0
 go_wp2_with fail
 refine (l1In_rb 7 4 6 _).mono ?_;rintro e w2 ⟨rfl,hb1⟩;rw[show inB 7 4 6=false from rfl];replace vO:VHas w2 w.heap.size 89 4 (lf [.int .i64 7,.int .i64 N,.int .i64 I,.string T]):=VHas.next vO hb1;replace hC:=hC.next hb1;replace hbl:=blw_rb hbl hbs hb1;clear hb1 o0
 go_wp2_with fail
 have hd:RB w2 w2.drew:=(Below.refl _ _).drew;have hD:=hC.next hd;have hO:VHas w2.drew w.heap.size 89 4 (lf [.int .i64 7,.int .i64 N,.int .i64 I,.string T]):=VHas.next vO hd;replace hbl:=blw_rb hbl hbs hd;clear hC vO hd;have hw35:IntKind.i64.wrap ((l.length:Int)-1)=((l.length:Int)-1):=by rw[IntKind.wrap_i64];omega
 obtain⟨b36,qb36⟩:∃ b:Bool,b=(inB (N) (0) (((l.length:Int)-1))):=⟨_,rfl⟩
 obtain⟨b37,qb37⟩:∃ b:Bool,b=(!b36):=⟨_,rfl⟩
 refine region_all (by kernel_rfl) (by kernel_rfl) RB RB.refl RB.trans
  [isV (.pointer (some ⟨w.heap.size,1,none⟩)),isV (.int .i64 N),isV (.pointer (some ⟨b,0,none⟩)),isV (.pointer (some ⟨b,0,none⟩)),isV (.pointer (some ⟨b,0,none⟩)),isV (.slice (some ⟨g,0,none⟩) l.length cap),isV (.int .i64 (l.length:Int)),isV (.int .i64 ((l.length:Int)-1)),isV (.bool b36),isV (.bool b37),isV (.bool b37)]
  ⟨isV.rb,isV.rb,isV.rb,isV.rb,isV.rb,isV.rb,isV.rb,isV.rb,isV.rb,isV.rb,isV.rb,trivial⟩ rfl ?_ ?_
 ·refine⟨?_,?_,?_,?_,?_,?_,?_,?_,?_,?_,?_,trivial⟩
  ·exact oq rfl fun ev w' v hR E pr=>by
    have e1:=E.was 3 _;simp[go_sem,e1]
  ·exact oq rfl fun ev w' v hR E pr=>by
    have e1:=E.eq pr 0 28;have cc:=(hO.next hR).cell (j:=1) (by omega);simp[lf]at cc;simp[go_sem,cc,e1]
  ·exact oq rfl fun ev w' v hR E pr=>by
    have e1:=E.was 0 _;simp[go_sem,e1]
  ·exact oq rfl fun ev w' v hR E pr=>by
    have e1:=E.eq pr 2 30;simp[go_sem,e1]
  ·exact oq rfl fun ev w' v hR E pr=>by
    have e1:=E.eq pr 3 31;simp[go_sem,e1]
  ·exact oq rfl fun ev w' v hR E pr=>by
    have e1:=E.eq pr 4 32;have cc:=(hD.x.next hR).cell (j:=0) (by omega);simp[lf]at cc;simp[go_sem,cc,e1]
  ·exact oq rfl fun ev w' v hR E pr=>by
    have e1:=E.eq pr 5 33;simp[go_sem,e1]
  ·exact oq rfl fun ev w' v hR E pr=>by
    have e1:=E.eq pr 6 34;simp[go_sem,E.con,hw35,e1]
  ·exact OpOk.ret _ (fun _=>rfl) fun ev w' v hR E pr=>by
    have e1:=E.eq pr 1 29;have e2:=E.eq pr 7 35;refine⟨40,#[.int .i64 N,.int .i64 0,.int .i64 ((l.length:Int)-1)],by simp[go_sem,gv,e1,e2,E.con,E.fn],?_⟩;rw[qb36];exact l1In_rb (N) (0) (((l.length:Int)-1)) _
  ·exact oq rfl fun ev w' v hR E pr=>by
    have e1:=E.eq pr 8 36;simp[go_sem,qb37,e1]
  ·exact oq rfl fun ev w' v hR E pr=>by
    have e1:=E.eq pr 9 37;simp[go_sem,e1]
 ·intro v w' hR hp
  obtain⟨_,_,_,_,_,_,_,_,_,_,p10,_⟩:=hp;replace p10:v 10=.bool b37:=p10;simp only[putL,Nat.zero_add,Nat.reduceAdd,p10,Act.put,List.setIfInBounds_toArray,List.set_cons_zero,List.set_cons_succ];replace hD:=hD.next hR;replace hO:VHas w' w.heap.size 89 4 (lf [.int .i64 7,.int .i64 N,.int .i64 I,.string T]):=VHas.next hO hR;replace hbl:=blw_rb hbl hbs hR;clear hR;rcases Bool.eq_false_or_eq_true (inB N 0 ((l.length:Int)-1)) with hto|hto
  rotate_left
  ·rw[qb37,qb36,hto]
   go_wp2;simp[bodyPost,results,Tryz.results64,go_sem];exact⟨⟨_,rfl⟩,⟨l,⟨_,_,_,hD,hP⟩,rfl⟩,hbl⟩
  rw[qb37,qb36,hto];obtain⟨t,rfl,htL⟩:=inB_nat hto;clear qb37 qb36 hto;have ht0:(0:Int)<=(t:Int):=by omega
  have htl:(t:Int)<(l.length:Int):=by omega
  have o0:=VHas.cell hO (j:=0) (by omega);have o1:=VHas.cell hO (j:=1) (by omega);have o2:=VHas.cell hO (j:=2) (by omega);simp[lf]at o0 o1 o2;have hsb:base<=w'.heap.size:=Nat.le_trans hbs hbl.size;have halL:=RB.alloc w' (.cells #[] 29);replace hD:=hD.next halL;replace hO:VHas (w'.alloc (.cells #[] 29)) w.heap.size 89 4 (lf [.int .i64 7,.int .i64 (t:Int),.int .i64 I,.string T]):=VHas.next hO halL;replace hbl:=blw_rb hbl hbs halL;obtain⟨y,hy⟩:=nd_get htL;obtain⟨hyk,hyi,hyp,hyt⟩:=hP.ok t y hy;have o0:=VHas.cell hO (j:=0) (by omega);simp[lf]at o0
  go_wp2_with fail
  clear o0 o1 o2;have hd:RB (w'.alloc (.cells #[] 29)) (w'.alloc (.cells #[] 29)).drew:=(Below.refl _ _).drew;replace hD:=hD.next hd;replace hO:VHas (w'.alloc (.cells #[] 29)).drew w.heap.size 89 4 (lf [.int .i64 7,.int .i64 (t:Int),.int .i64 I,.string T]):=VHas.next hO hd;replace hbl:=blw_rb hbl hbs hd;have hyO:=hD.nl y (List.mem_of_getElem? hy);have hyz:NdZ y.n y.s:=hyk.zz hyt hyO.K;have hWs:base<=(w'.alloc (.cells #[] 29)).drew.heap.size:=Nat.le_trans hbs hbl.size;have hA9:∀ x,(Value.slice eo q.length ec).ownBlock=some x->x<(w'.alloc (.cells #[] 29)).drew.heap.size:=fun x e=>(GOwn.at hD.m.o e).2
  clear hd
  refine region_store (by kernel_rfl) (by kernel_rfl) (by kernel_rfl) RB RB.refl RB.trans
   [isV (.pointer (some ⟨b,0,none⟩)),isV (.pointer (some ⟨b,0,none⟩)),isV (.pointer (some ⟨b,0,none⟩)),isV (.slice (some ⟨g,0,none⟩) l.length cap),isV (.pointer (some ⟨w.heap.size,1,none⟩)),isV (.int .i64 (t:Int)),isV (.pointer (some ⟨b,0,none⟩)),isV (.pointer (some ⟨b,0,none⟩)),isV (.pointer (some ⟨b,0,none⟩)),isV (.slice (some ⟨g,0,none⟩) l.length cap),isV (.pointer (some ⟨w.heap.size,1,none⟩)),isV (.int .i64 (t:Int)),isV (.pointer (some ⟨g,t*10,none⟩)),isV (ndV y.n y.s),CpV (w'.alloc (.cells #[] 29)).drew.heap.size (rsN y.n),isV (.pointer (some ⟨g,t*10,none⟩))]
   ⟨isV.rb,isV.rb,isV.rb,isV.rb,isV.rb,isV.rb,isV.rb,isV.rb,isV.rb,isV.rb,isV.rb,isV.rb,isV.rb,isV.rb,CpV.rb,isV.rb,trivial⟩ rfl ?_ _ rfl rfl rfl
   (fun v9 W9=>(∃ s5,ClB W9 b base (l.set t ⟨(rsN y.n),s5⟩) q (some ⟨g,0,none⟩) cap eo ec)/\True/\Below base w W9) ?_ ?_
  ·simp only[List.size_toArray,List.length_cons,List.length_nil,Nat.reduceAdd,Nat.reduceSub,List.take_succ_cons,List.take_zero]
   refine⟨?_,?_,?_,?_,?_,?_,?_,?_,?_,?_,?_,?_,?_,?_,?_,?_,trivial⟩
   ·exact oq rfl fun ev w9 v hR E pr=>by
     have e1:=E.was 0 _;simp[go_sem,e1]
   ·exact oq rfl fun ev w9 v hR E pr=>by
     have e1:=E.eq pr 0 143;simp[go_sem,e1]
   ·exact oq rfl fun ev w9 v hR E pr=>by
     have e1:=E.eq pr 1 144;simp[go_sem,e1]
   ·exact oq rfl fun ev w9 v hR E pr=>by
     have e1:=E.eq pr 2 145;have cc:=(hD.x.next hR).cell (j:=0) (by omega);simp[lf]at cc;simp[go_sem,cc,e1]
   ·exact oq rfl fun ev w9 v hR E pr=>by
     have e1:=E.was 3 _;simp[go_sem,e1]
   ·exact oq rfl fun ev w9 v hR E pr=>by
     have e1:=E.eq pr 4 147;have cc:=(hO.next hR).cell (j:=1) (by omega);simp[lf]at cc;simp[go_sem,cc,e1]
   ·exact oq rfl fun ev w9 v hR E pr=>by
     have e1:=E.was 0 _;simp[go_sem,e1]
   ·exact oq rfl fun ev w9 v hR E pr=>by
     have e1:=E.eq pr 6 149;simp[go_sem,e1]
   ·exact oq rfl fun ev w9 v hR E pr=>by
     have e1:=E.eq pr 7 150;simp[go_sem,e1]
   ·exact oq rfl fun ev w9 v hR E pr=>by
     have e1:=E.eq pr 8 151;have cc:=(hD.x.next hR).cell (j:=0) (by omega);simp[lf]at cc;simp[go_sem,cc,e1]
   ·exact oq rfl fun ev w9 v hR E pr=>by
     have e1:=E.was 3 _;simp[go_sem,e1]
   ·exact oq rfl fun ev w9 v hR E pr=>by
     have e1:=E.eq pr 10 153;have cc:=(hO.next hR).cell (j:=1) (by omega);simp[lf]at cc;simp[go_sem,cc,e1]
   ·exact oq rfl fun ev w9 v hR E pr=>by
     have e1:=E.eq pr 9 152;have e2:=E.eq pr 11 154;simp[go_sem,ht0,htl,e1,e2]
   ·exact oq rfl fun ev w9 v hR E pr=>by
     have e1:=E.eq pr 12 155;exact exec_ndAt rfl e1 (GOwn.next hD.n hR) hy
   ·refine OpOk.call rfl fun ev w9 v hR E pr=>?_
    have e1:=E.eq pr 13 156;refine⟨19,#[ndV y.n y.s],by simp[go_sem,e1,E.fn],?_⟩;refine (specRestart_any y.n y.s hyz w9 (hyO.next hR).M).mono ?_;rintro e w8 ⟨s',rfl,hOs,hb⟩;exact⟨_,rfl,hb,s',rfl,hOs.from hR.size⟩
   ·exact oq rfl fun ev w9 v hR E pr=>by
     have e1:=E.eq pr 3 146;have e2:=E.eq pr 5 148;simp[go_sem,ht0,htl,e1,e2]
  ·intro ev w9 v hR E hp9
   obtain⟨_,_,_,_,_,_,_,_,_,_,_,_,_,_,p14,p15,_⟩:=hp9;have E1:=E.at_ 15 158 rfl (by kernel_rfl) (Nat.le_of_ble_eq_true (by kernel_rfl));have E2:=E.at_ 14 157 rfl (by kernel_rfl) (Nat.le_of_ble_eq_true (by kernel_rfl));rw[p15]at E1;obtain⟨s5,e5,hO5⟩:CpV (w'.alloc (.cells #[] 29)).drew.heap.size (rsN y.n) (v 14) w9:=p14;rw[e5]at E2;have h9:=hD.next hR;have g9:=gr_setL g (ndL (rsN y.n) s5) (t*10) w9;have hgn:∀ x,some g=some x->Typed w9 x 27:=fun x e=>GOwn.typed h9.n (x:=x) (by cases e;rfl)
   exact⟨_,exec_boxAt (ndL (rsN y.n) s5) rfl E1 E2 ((GOwn.vhas h9.n (by omega)).elim fun g' ⟨e',_,hv⟩=>by cases e';exact hv) (by show t*10+10<=l.length*10;omega) (by kernel_rfl) (oneAll (by kernel_rfl)),⟨s5,h9.put htL ⟨(rsN y.n),s5⟩ (hO5.from hWs)⟩,trivial,blw_row (blw_rb hbl hbs hR) hbs g9 (fun x e=>(GOwn.at h9.n (x:=x) (by cases e;rfl)).1)⟩
  ·intro v9 W9 hF9
   simp only[List.size_toArray,List.length_cons,List.length_nil,Nat.reduceAdd,Nat.reduceSub,List.take_succ_cons,List.take_zero,putL,Nat.zero_add,Act.put,List.setIfInBounds_toArray,List.set_cons_zero,List.set_cons_succ];obtain⟨⟨s5,hC9⟩,_,hbl9⟩:=hF9;have hPn:=hP.put (z':=⟨rsN y.n,s5⟩) hy (by show OkN (rsN y.n);rw[hyk.ne.2.2];exact hyk.rs) (by show (rsN y.n).id = _;rw[hyk.ne.2.2];rfl) (by show (rsN y.n).peers = _;rw[hyk.ne.2.2];rfl) (by show TxL (rsN y.n).log;rw[hyk.ne.2.2];exact hyt)
   go_wp2_with fail
   refine (l12Send_nil b base _ _ cap _ _ _ ⟨_,_,_,hC9,hPn⟩).mono ?_;rintro e w9 ⟨rfl,e9⟩;subst e9;go_wp2;simp[bodyPost,results,Tryz.results64,go_sem];exact⟨⟨_,rfl⟩,⟨_,⟨_,_,_,hC9,hPn⟩,by rw[List.length_set]⟩,hbl9⟩
set_option maxRecDepth 100000 in
set_option maxHeartbeats 8000000 in
theorem l12DoZ_any (b base:Nat) (l:List Nq) (q:List Mq) (ao:Option Addr) (cap:Nat) (eo:Option Addr) (ec:Nat) (K N I:Int) (T:ByteArray) (hK:inB K 1 7=false) (w:World) (hbs:base<=w.heap.size) (hC:ClB w b base l q ao cap eo ec) (hP:ClP l q):Calls Tryz.prog 64 #[.pointer (some ⟨b,0,none⟩),.agg #[.int .i64 K,.int .i64 N,.int .i64 I,.string T]] w fun e w'=>DoA b base l.length ao cap w w' e:=by
 have hal:=RB.alloc w (.cells #[.int .i64 K,.int .i64 N,.int .i64 I,.string T] 89);have vO:VHas (w.alloc (.cells #[.int .i64 K,.int .i64 N,.int .i64 I,.string T] 89)) w.heap.size 89 4 (lf [.int .i64 K,.int .i64 N,.int .i64 I,.string T]):=box_new w [.int .i64 K,.int .i64 N,.int .i64 I,.string T] 89;have hbl:=blw_rb (Below.refl base w) hbs hal;replace hC:=hC.next hal;clear hal;go_enter Tryz.func64,Tryz.ntmps64;have o0:=VHas.cell vO (j:=0) (by omega);simp[lf]at o0
 go_wp2_with fail
 clear o0;generalize (w.alloc (.cells #[.int .i64 K,.int .i64 N,.int .i64 I,.string T] 89))=W at vO hbl hC ⊢;refine (l1In_rb K 1 7 _).mono ?_;rintro e w1 ⟨rfl,hb1⟩;rw[hK];replace hC:=hC.next hb1;replace hbl:=blw_rb hbl hbs hb1;clear hb1 vO;go_wp2;simp[bodyPost,results,Tryz.results64,go_sem];exact⟨⟨_,rfl⟩,⟨l,⟨_,_,_,hC,hP⟩,rfl⟩,hbl⟩
theorem l12Do_any (b base:Nat) (l:List Nq) (q:List Mq) (ao:Option Addr) (cap:Nat) (eo:Option Addr) (ec:Nat) (K N I:Int) (T:ByteArray) (hT:T.size<=1048576) (w:World) (hbs:base<=w.heap.size) (hbb:base<=b) (hC:ClB w b base l q ao cap eo ec) (hP:ClP l q):Calls Tryz.prog 64 #[.pointer (some ⟨b,0,none⟩),.agg #[.int .i64 K,.int .i64 N,.int .i64 I,.string T]] w fun e w'=>DoA b base l.length ao cap w w' e:=by
 rcases Bool.eq_false_or_eq_true (inB K 1 7) with hK|hK
 rotate_left
 ·exact l12DoZ_any b base l q ao cap eo ec K N I T hK w hbs hC hP
 have h:=hK;rw[inB_dec]at h;have h:=of_decide_eq_true h;have h7:K=1\/K=2\/K=3\/K=4\/K=5\/K=6\/K=7:=by omega
 clear h hK;rcases h7 with rfl|rfl|rfl|rfl|rfl|rfl|rfl
 ·exact l12Do1_any b base l q ao cap eo ec N I T hT w hbs hbb hC hP
 ·exact l12Do2_any b base l q ao cap eo ec N I T hT w hbs hbb hC hP
 ·exact l12Do3_any b base l q ao cap eo ec N I T hT w hbs hbb hC hP
 ·exact l12Do4_any b base l q ao cap eo ec N I T hT w hbs hbb hC hP
 ·exact l12Do5_any b base l q ao cap eo ec N I T hT w hbs hbb hC hP
 ·exact l12Do6_any b base l q ao cap eo ec N I T hT w hbs hbb hC hP
 ·exact l12Do7_any b base l q ao cap eo ec N I T hT w hbs hbb hC hP
def nK (p:Int):Nat:=if 1<=p/\p<=5 then p.toNat else 0
def nB (p:Int):Bool:=decide (1<=p/\p<=5)
def NcAns (w w':World) (e:Ending) (p:Int):Prop:=∃ ao cap,e=.returned (.tuple #[.agg #[.slice ao (nK p) cap,.slice none 0 0],.bool (nB p)])/\GOwn w' w.heap.size 27 10 ao (nK p) cap (lf (clc (newL p (nK p))))/\RB w w'
theorem ncans_zero {w w':World} {p:Int} (h:¬ (1<=p/\p<=5)) (hb:RB w w'):NcAns w w' (.returned (.tuple #[.agg #[.slice none 0 0,.slice none 0 0],.bool false])) p:=by
 have e1:nK p=0:=by simp[nK,h]
 have e2:nB p=false:=by simp[nB,h]
 unfold NcAns;rw[e1,e2];exact⟨none,0,rfl,GOwn.nil _ _ _ _ _,hb⟩
end
end Go.Proofs.YtbabakgjkloabaaGreatDoor
