/-
  Helpers: Do3, Do4, Do5, Do6, Do7, Do0, CluM, Nd10.
-/
import Derived.Test.YtbabakgjkloabaaGreatDoorPack24
set_option linter.unusedVariables false
set_option linter.unusedSimpArgs false
set_option maxRecDepth 100000
set_option maxHeartbeats 16000000
namespace Go.Proofs.YtbabakgjkloabaaGreatDoor
section
open Go Go.RowKit
attribute [local go_sem ↓] Go.wp_at_zero Go.wp_at_succ
theorem D2(b base:Nat)(l:List Nq)(q:List Mq)(ao:Option Addr)(cap:Nat)(eo:Option Addr)(ec:Nat)(N I:Int)(T:ByteArray)(hT:T.size<=1048576)(w:World)(hbs:base<=w.heap.size)(hbb:base<=b)(hC:ClB w b base l q ao cap eo ec)(hP:ClP l q):Calls Tryz.prog 64 #[.pointer (some ⟨b,0,none⟩),.agg #[.int .i64 3,.int .i64 N,.int .i64 I,.string T]] w fun e w'=>CI b base l.length ao cap w w' e:=by
 have hq200:=hP.net;have hl5:=hP.len;obtain⟨g,eg,hgb,_⟩:=GOwn.vhas hC.n (by omega);subst eg;have hal:=ra w (.cells #[.int .i64 3,.int .i64 N,.int .i64 I,.string T] 89);have vO:VHas (w.alloc (.cells #[.int .i64 3,.int .i64 N,.int .i64 I,.string T] 89)) w.heap.size 89 4 (lf [.int .i64 3,.int .i64 N,.int .i64 I,.string T]):=bH w [.int .i64 3,.int .i64 N,.int .i64 I,.string T] 89;have hbl:=aN (Below.refl base w) hbs hal;replace hC:=hC.next hal;clear hal;go_enter Tryz.func64,Tryz.ntmps64;have o0:=VHas.cell vO (j:=0) (by omega);simp[lf]at o0
 go_wp2_with fail
 clear o0;generalize (w.alloc (.cells #[.int .i64 3,.int .i64 N,.int .i64 I,.string T] 89))=W at vO hbl hC ⊢;refine (bS 3 1 7 _).mono ?_;rintro e w1 ⟨rfl,hb1⟩;rw[show dD 3 1 7=true from rfl];replace vO:VHas w1 w.heap.size 89 4 (lf [.int .i64 3,.int .i64 N,.int .i64 I,.string T]):=vn vO hb1;replace hC:=hC.next hb1;replace hbl:=aN hbl hbs hb1;clear hb1;have o0:=VHas.cell vO (j:=0) (by omega);simp[lf]at o0
 go_wp2_with fail
 refine (bS 3 4 6 _).mono ?_;rintro e w2 ⟨rfl,hb1⟩;rw[show dD 3 4 6=false from rfl];replace vO:VHas w2 w.heap.size 89 4 (lf [.int .i64 3,.int .i64 N,.int .i64 I,.string T]):=vn vO hb1;replace hC:=hC.next hb1;replace hbl:=aN hbl hbs hb1;clear hb1 o0
 go_wp2_with fail
 have hd:RB w2 w2.drew:=(Below.refl _ _).drew;have hD:=hC.next hd;have hO:VHas w2.drew w.heap.size 89 4 (lf [.int .i64 3,.int .i64 N,.int .i64 I,.string T]):=vn vO hd;replace hbl:=aN hbl hbs hd;clear hC vO hd;have hw35:IntKind.i64.wrap ((l.length:Int)-1)=((l.length:Int)-1):=wi
 obtain⟨b36,qb36⟩:∃ b:Bool,b=(dD (N) (0) (((l.length:Int)-1))):=⟨_,rfl⟩
 obtain⟨b37,qb37⟩:∃ b:Bool,b=(!b36):=⟨_,rfl⟩
 refine bQ (by kernel_rfl) (by kernel_rfl) RB rr rt
  [isV (.pointer (some ⟨w.heap.size,1,none⟩)),isV (.int .i64 N),isV (.pointer (some ⟨b,0,none⟩)),isV (.pointer (some ⟨b,0,none⟩)),isV (.pointer (some ⟨b,0,none⟩)),isV (.slice (some ⟨g,0,none⟩) l.length cap),isV (.int .i64 (l.length:Int)),isV (.int .i64 ((l.length:Int)-1)),isV (.bool b36),isV (.bool b37),isV (.bool b37)]
  ⟨iR,iR,iR,iR,iR,iR,iR,iR,iR,iR,iR,trivial⟩ rfl ?_ ?_
 ·refine⟨?_,?_,?_,?_,?_,?_,?_,?_,?_,?_,?_,trivial⟩
  ·exact ow 3
  ·exact oc 0 28 fun _ hR=>(hO.next hR).cell (j:=1) (by omega)
  ·exact ow 0
  ·exact o1 2 30
  ·exact o1 3 31
  ·exact oc 4 32 fun _ hR=>(hD.x.next hR).cell (j:=0) (by omega)
  ·exact o1 5 33
  ·exact mQ 6 34 hw35
  ·exact OpOk.ret _ (fun _=>rfl) fun ev w' v hR E pr=>by
    have e1:=E.eq pr 1 29;have e2:=E.eq pr 7 35;refine⟨40,#[.int .i64 N,.int .i64 0,.int .i64 ((l.length:Int)-1)],by simp[go_sem,gv,e1,e2,E.con,E.fn],?_⟩;rw[qb36];exact bS (N) (0) (((l.length:Int)-1)) _
  ·exact mQ 8 36 qb37
  ·exact o1 9 37
 ·intro v w' hR hp
  obtain⟨_,_,_,_,_,_,_,_,_,_,p10,_⟩:=hp;replace p10:v 10=.bool b37:=p10;simp only[bF,Nat.zero_add,Nat.reduceAdd,p10,Act.put,sY,sZ,ss];replace hD:=hD.next hR;replace hO:VHas w' w.heap.size 89 4 (lf [.int .i64 3,.int .i64 N,.int .i64 I,.string T]):=vn hO hR;replace hbl:=aN hbl hbs hR;clear hR;rcases bq (dD N 0 ((l.length:Int)-1)) with hto|hto
  rotate_left
  ·rw[qb37,qb36,hto]
   go_wp2;simp[bodyPost,results,Tryz.results64,go_sem];exact⟨⟨_,rfl⟩,⟨l,⟨_,_,_,hD,hP⟩,rfl⟩,hbl⟩
  rw[qb37,qb36,hto];obtain⟨t,rfl,htL⟩:=kB hto;clear qb37 qb36 hto;have ht0:(0:Int)<=(t:Int):=by omega
  have htl:(t:Int)<(l.length:Int):=by omega
  have o0:=VHas.cell hO (j:=0) (by omega);have o1:=VHas.cell hO (j:=1) (by omega);have o2:=VHas.cell hO (j:=2) (by omega);simp[lf]at o0 o1 o2;have hsb:base<=w'.heap.size:=Nat.le_trans hbs hbl.size;have halL:=ra w' (.cells #[] 29);replace hD:=hD.next halL;replace hO:VHas (w'.alloc (.cells #[] 29)) w.heap.size 89 4 (lf [.int .i64 3,.int .i64 (t:Int),.int .i64 I,.string T]):=vn hO halL;replace hbl:=aN hbl hbs halL;obtain⟨y,hy⟩:=lW htL;obtain⟨hyk,hyi,hyp,hyt⟩:=hP.ok t y hy;have o0:=VHas.cell hO (j:=0) (by omega);simp[lf]at o0
  go_wp2_with fail
  clear o0 o1 o2;have hd:RB (w'.alloc (.cells #[] 29)) (w'.alloc (.cells #[] 29)).drew:=(Below.refl _ _).drew;replace hD:=hD.next hd;replace hO:VHas (w'.alloc (.cells #[] 29)).drew w.heap.size 89 4 (lf [.int .i64 3,.int .i64 (t:Int),.int .i64 I,.string T]):=vn hO hd;replace hbl:=aN hbl hbs hd;have hyO:=hD.nl y (List.mem_of_getElem? hy);have hyz:NdZ y.n y.s:=hyk.zz hyt hyO.K;have hWs:base<=(w'.alloc (.cells #[] 29)).drew.heap.size:=Nat.le_trans hbs hbl.size;have hA9:∀ x,(Value.slice eo q.length ec).ownBlock=some x->x<(w'.alloc (.cells #[] 29)).drew.heap.size:=fun x e=>(GOwn.at hD.m.o e).2
  clear hd
  refine eG (by kernel_rfl) (by kernel_rfl) (by kernel_rfl) (fun W5=>RB (w'.alloc (.cells #[] 29)).drew W5) (rr _) (fun i=>if i=15 then S7 (w'.alloc (.cells #[] 29)).drew.heap.size else RB) [15]
   [isV (.pointer (some ⟨b,0,none⟩)),isV (.pointer (some ⟨b,0,none⟩)),isV (.pointer (some ⟨b,0,none⟩)),isV (.slice (some ⟨g,0,none⟩) l.length cap),isV (.pointer (some ⟨w.heap.size,1,none⟩)),isV (.int .i64 (t:Int)),isV (.pointer (some ⟨g,t*10,none⟩)),isV (aX y.n y.s),isV (.pointer (some ⟨w.heap.size,3,none⟩)),isV (.string T),PpV (w'.alloc (.cells #[] 29)).drew.heap.size (mC y.n T) (yQ y.n T),PpV (w'.alloc (.cells #[] 29)).drew.heap.size (mC y.n T) (yQ y.n T),CpV (w'.alloc (.cells #[] 29)).drew.heap.size (mC y.n T),isV (.int .i64 (yQ y.n T)),BxN (w'.alloc (.cells #[] 29)).drew.heap.size,BxS (w'.alloc (.cells #[] 29)).drew.heap.size (mC y.n T),isV (.int .i64 (yQ y.n T))]
   [(14,15)] [(15,14)] [] (by kernel_rfl) (by kernel_rfl) ⟨iR,iR,iR,iR,iR,iR,iR,iR,iR,iR,PpV.rb,PpV.rb,CpV.rb,iR,BxN.rb,BxS.rb,iR,trivial⟩ (fun i h=>by simp at h;simp[h]) ?_ ?_ ?_
  ·intro i hi j hj hne hx hd v w1 w2 hp hG hR
   simp only[List.mem_cons,List.not_mem_nil,or_false]at hi;rcases hi with rfl
   ·have hj2:j<17:=hj
    have hj3:j=0\/j=1\/j=2\/j=3\/j=4\/j=5\/j=6\/j=7\/j=8\/j=9\/j=10\/j=11\/j=12\/j=13\/j=14\/j=15\/j=16:=by omega
    rcases hj3 with rfl|rfl|rfl|rfl|rfl|rfl|rfl|rfl|rfl|rfl|rfl|rfl|rfl|rfl|rfl|rfl|rfl
    ·exact hp
    ·exact hp
    ·exact hp
    ·exact hp
    ·exact hp
    ·exact hp
    ·exact hp
    ·exact hp
    ·exact hp
    ·exact hp
    ·obtain⟨b5,hg,hT,_⟩:=hR
     exact PpV.gr hp hg hT
    ·obtain⟨b5,hg,hT,_⟩:=hR
     exact PpV.gr hp hg hT
    ·obtain⟨b5,hg,hT,_⟩:=hR
     exact CpV.gr hp hg hT
    ·exact hp
    ·exact absurd rfl hx
    ·exact absurd rfl hne
    ·exact hp
  ·refine aA ?_ (aA ?_ (aA ?_ (aA ?_ (aA ?_ (aA ?_ (aA ?_ (aA ?_ (aA ?_ (aA ?_ (aA ?_ (aA ?_ (aA ?_ (aA ?_ (aA ?_ (aA ?_ (aA ?_ (eF)))))))))))))))))
   ·exact xq rfl rfl fun ev w9 v hG E pr=>by
     have e1:=E.was 0 _;simp[go_sem,e1]
   ·exact xq rfl rfl fun ev w9 v hG E pr=>by
     have e1:ev (.tmp 76)=.pointer (some ⟨b,0,none⟩):=E.tld pr 0 76;simp[go_sem,e1]
   ·exact xq rfl rfl fun ev w9 v hG E pr=>by
     have e1:ev (.tmp 77)=.pointer (some ⟨b,0,none⟩):=E.tld pr 1 77;simp[go_sem,e1]
   ·exact xq rfl rfl fun ev w9 v hG E pr=>by
     have e1:ev (.tmp 78)=.pointer (some ⟨b,0,none⟩):=E.tld pr 2 78;have cc:=(vn hD.x hG).cell (j:=0) (by omega);simp[lf]at cc;simp[go_sem,cc,e1]
   ·exact xq rfl rfl fun ev w9 v hG E pr=>by
     have e1:=E.was 3 _;simp[go_sem,e1]
   ·exact xq rfl rfl fun ev w9 v hG E pr=>by
     have e1:ev (.tmp 80)=.pointer (some ⟨w.heap.size,1,none⟩):=E.tld pr 4 80;have cc:=(vn hO hG).cell (j:=1) (by omega);simp[lf]at cc;simp[go_sem,cc,e1]
   ·exact xq rfl rfl fun ev w9 v hG E pr=>by
     have e1:ev (.tmp 79)=.slice (some ⟨g,0,none⟩) l.length cap:=E.tld pr 3 79;have e2:ev (.tmp 81)=.int .i64 (t:Int):=E.tld pr 5 81;simp[go_sem,ht0,htl,e1,e2]
   ·exact xq rfl rfl fun ev w9 v hG E pr=>by
     have e1:ev (.tmp 82)=.pointer (some ⟨g,t*10,none⟩):=E.tld pr 6 82;exact iC rfl e1 (GOwn.next hD.n hG) hy
   ·exact xq rfl rfl fun ev w9 v hG E pr=>by
     have e1:=E.was 3 _;simp[go_sem,e1]
   ·exact xq rfl rfl fun ev w9 v hG E pr=>by
     have e1:ev (.tmp 84)=.pointer (some ⟨w.heap.size,3,none⟩):=E.tld pr 8 84;have cc:=(vn hO hG).cell (j:=3) (by omega);simp[lf]at cc;simp[go_sem,cc,e1]
   ·exact ExOk.call rfl fun ev w9 v hG E pr=>by
     have e1:ev (.tmp 83)=aX y.n y.s:=E.tld pr 7 83;have e2:ev (.tmp 85)=.string T:=E.tld pr 9 85;refine⟨22,#[aX y.n y.s,.string T],by simp[go_sem,e1,e2,E.fn],?_⟩;refine (qV y.n y.s hyz T hT w9 (hyO.next hG).M).mono ?_;rintro e w8 ⟨s',rfl,hOs,hb⟩;exact⟨_,rfl,hb,rt _ _ _ hG hb,s',rfl,hOs.from hG.size⟩
   ·exact ExOk.val rfl fun ev w9 v hG E pr=>⟨ev (.tmp 86),w9,by simp[go_sem],rr _,hG,E.tld pr 10 86⟩
   ·exact ExOk.val rfl fun ev w9 v hG E pr=>by
     obtain⟨s,e1,h1⟩:PpV (w'.alloc (.cells #[] 29)).drew.heap.size (mC y.n T) (yQ y.n T) (ev (.tmp 75)) w9:=E.tld pr 11 75;exact⟨aX (mC y.n T) s,w9,by simp[go_sem,e1],rr _,hG,s,rfl,h1⟩
   ·exact ExOk.val rfl fun ev w9 v hG E pr=>by
     obtain⟨s,e1,h1⟩:PpV (w'.alloc (.cells #[] 29)).drew.heap.size (mC y.n T) (yQ y.n T) (ev (.tmp 75)) w9:=E.tld pr 11 75;exact⟨.int .i64 (yQ y.n T),w9,by simp[go_sem,e1],rr _,hG,rfl⟩
   ·exact ExOk.val rfl fun ev w9 v hG E pr=>⟨.pointer (some ⟨w9.heap.size,0,none⟩),w9.alloc (.cells (aJ aU aP).toArray 27),(by (simp[go_sem])<;>rfl),ra _ _,rt _ _ _ hG (ra _ _),w9.heap.size,rfl,hG.size,aH w9 aU aP⟩
   ·exact ExOk.skip rfl (by decide) fun ev w9 v hG E pr=>by
     obtain⟨b5,e1,hb5,vB⟩:BxN (w'.alloc (.cells #[] 29)).drew.heap.size (ev (.tmp 6)) w9:=E.tld pr 14 6;obtain⟨s,e2,hO5⟩:CpV (w'.alloc (.cells #[] 29)).drew.heap.size (mC y.n T) (ev (.tmp 87)) w9:=E.tld pr 12 87;have hg:w9.grownBy (setL w9 b5 0 (aJ (mC y.n T) s)) (some b5):=bP _ _ 0 _;have e3:v 14=ev (.tmp 6):=(E.at_ 14 6 rfl (by kernel_rfl) (nb (by kernel_rfl))).symm
     have h15:BxS (w'.alloc (.cells #[] 29)).drew.heap.size (mC y.n T) (v 14) (setL w9 b5 0 (aJ (mC y.n T) s)):=by
      rw[e3];exact⟨b5,s,e1,hb5,bE _ vB,hO5.gr hg (bA vB) (by decide) (by decide)⟩
     exact⟨_,bU (aJ (mC y.n T) s) rfl e1 e2 vB (by kernel_rfl) (cD (by kernel_rfl)),⟨b5,hg,vB.typed,hb5⟩,jO hG hg (fun x e=>by cases e;exact hb5),h15⟩
   ·exact ExOk.val rfl fun ev w9 v hG E pr=>⟨ev (.tmp 88),w9,by simp[go_sem],rr _,hG,E.tld pr 13 88⟩
  ·intro v8 W8 hG8 hp8
   have p15:(BxS (w'.alloc (.cells #[] 29)).drew.heap.size (mC y.n T)) (v8 14) W8:=hp8 15 (by decide) (by kernel_rfl);have p16:v8 16=.int .i64 (yQ y.n T):=hp8 16 (by decide) (by kernel_rfl);clear hp8;obtain⟨b5,s5,e5,hb5,v5,hO5⟩:BxS (w'.alloc (.cells #[] 29)).drew.heap.size (mC y.n T) (v8 14) W8:=p15;simp only[bF,Nat.zero_add,Nat.reduceAdd,Act.put,sY,sZ,ss,e5,p16];replace hD:=hD.next hG8;replace hO:VHas W8 w.heap.size 89 4 (lf [.int .i64 3,.int .i64 (t:Int),.int .i64 I,.string T]):=vn hO hG8;replace hbl:=aN hbl hbs hG8;clear hyO hyz hA9 hG8 e5;have o0:=VHas.cell hO (j:=0) (by omega);simp[lf]at o0
   go_wp2_with fail
   clear o0;have hd:RB W8 W8.drew:=(Below.refl _ _).drew;replace hD:=hD.next hd;replace hO:VHas W8.drew w.heap.size 89 4 (lf [.int .i64 3,.int .i64 (t:Int),.int .i64 I,.string T]):=vn hO hd;replace hbl:=aN hbl hbs hd;replace v5:NdB W8.drew b5 (mC y.n T) s5:=vn v5 hd;replace hO5:=(hO5.from hWs).next hd;clear hd
   refine bW (by kernel_rfl) (by kernel_rfl) (by kernel_rfl) RB rr rt
    [isV (.pointer (some ⟨b,0,none⟩)),isV (.pointer (some ⟨b,0,none⟩)),isV (.pointer (some ⟨b,0,none⟩)),isV (.slice (some ⟨g,0,none⟩) l.length cap),isV (.pointer (some ⟨w.heap.size,1,none⟩)),isV (.int .i64 (t:Int)),isV (aX (mC y.n T) s5),isV (.pointer (some ⟨g,t*10,none⟩))]
    ⟨iR,iR,iR,iR,iR,iR,iR,iR,trivial⟩ rfl ?_ _ rfl rfl rfl
    (fun v9 W9=>(∃ s5,ClB W9 b base (l.set t ⟨(mC y.n T),s5⟩) q (some ⟨g,0,none⟩) cap eo ec)/\True/\Below base w W9) ?_ ?_
   ·simp only[List.size_toArray,List.length_cons,List.length_nil,Nat.reduceAdd,Nat.reduceSub,List.take_succ_cons,List.take_zero]
    refine⟨?_,?_,?_,?_,?_,?_,?_,?_,trivial⟩
    ·exact ow 0
    ·exact o1 0 89
    ·exact o1 1 90
    ·exact oc 2 91 fun _ hR=>(hD.x.next hR).cell (j:=0) (by omega)
    ·exact ow 3
    ·exact oc 4 93 fun _ hR=>(hO.next hR).cell (j:=1) (by omega)
    ·exact oq rfl fun ev w9 v hR E pr=>by
      have e1:=E.was 6 _;exact bD rfl e1 (v5.next hR)
    ·exact oq rfl fun ev w9 v hR E pr=>by
      have e1:=E.eq pr 3 92;have e2:=E.eq pr 5 94;simp[go_sem,ht0,htl,e1,e2]
   ·intro ev w9 v hR E hp9
    obtain⟨_,_,_,_,_,_,p6,p7,_⟩:=hp9;have E1:=E.at_ 7 96 rfl (by kernel_rfl) (nb (by kernel_rfl));have E2:=E.at_ 6 95 rfl (by kernel_rfl) (nb (by kernel_rfl));rw[p7]at E1;rw[p6]at E2;have h9:=hD.next hR;have g9:=bP g (aJ (mC y.n T) s5) (t*10) w9;have hgn:∀ x,some g=some x->aG w9 x 27:=fun x e=>GOwn.typed h9.n (x:=x) (by cases e;rfl)
    exact⟨_,lV (aJ (mC y.n T) s5) rfl E1 E2 ((GOwn.vhas h9.n (by omega)).elim fun g' ⟨e',_,hv⟩=>by cases e';exact hv) (by show t*10+10<=l.length*10;omega) (by kernel_rfl) (cD (by kernel_rfl)),⟨s5,h9.put htL ⟨(mC y.n T),s5⟩ (hO5.next hR)⟩,trivial,kI (aN hbl hbs hR) hbs g9 (fun x e=>(GOwn.at h9.n (x:=x) (by cases e;rfl)).1)⟩
   ·intro v9 W9 hF9
    simp only[List.size_toArray,List.length_cons,List.length_nil,Nat.reduceAdd,Nat.reduceSub,List.take_succ_cons,List.take_zero,bF,Nat.zero_add,Act.put,sY,sZ,ss];obtain⟨⟨s6,hC9⟩,_,hbl9⟩:=hF9;have hsm:=CK hyk T;have hPn:=hP.put (z':=⟨mC y.n T,s6⟩) hy (by show OkN (mC y.n T);rw[hyk.nep T];exact hyk.pr T) (by show (mC y.n T).id = _;rw[hyk.nep T];exact hsm.1) (by show (mC y.n T).peers = _;rw[hyk.nep T];exact hsm.2) (by show TxL (mC y.n T).log;rw[hyk.nep T];exact DH hyt hT);generalize yQ y.n T=kk;go_wp2;simp[bodyPost,results,Tryz.results64,go_sem];exact⟨⟨_,rfl⟩,⟨_,⟨_,_,_,hC9,hPn⟩,by rw[List.length_set]⟩,hbl9⟩
theorem F3(b base:Nat)(l:List Nq)(q:List Mq)(ao:Option Addr)(cap:Nat)(eo:Option Addr)(ec:Nat)(N I:Int)(T:ByteArray)(hT:T.size<=1048576)(w:World)(hbs:base<=w.heap.size)(hbb:base<=b)(hC:ClB w b base l q ao cap eo ec)(hP:ClP l q):Calls Tryz.prog 64 #[.pointer (some ⟨b,0,none⟩),.agg #[.int .i64 4,.int .i64 N,.int .i64 I,.string T]] w fun e w'=>CI b base l.length ao cap w w' e:=by
 have hq200:=hP.net;have hl5:=hP.len;obtain⟨g,eg,hgb,_⟩:=GOwn.vhas hC.n (by omega);subst eg;have hal:=ra w (.cells #[.int .i64 4,.int .i64 N,.int .i64 I,.string T] 89);have vO:VHas (w.alloc (.cells #[.int .i64 4,.int .i64 N,.int .i64 I,.string T] 89)) w.heap.size 89 4 (lf [.int .i64 4,.int .i64 N,.int .i64 I,.string T]):=bH w [.int .i64 4,.int .i64 N,.int .i64 I,.string T] 89;have hbl:=aN (Below.refl base w) hbs hal;replace hC:=hC.next hal;clear hal;go_enter Tryz.func64,Tryz.ntmps64;have o0:=VHas.cell vO (j:=0) (by omega);simp[lf]at o0
 go_wp2_with fail
 clear o0;generalize (w.alloc (.cells #[.int .i64 4,.int .i64 N,.int .i64 I,.string T] 89))=W at vO hbl hC ⊢;refine (bS 4 1 7 _).mono ?_;rintro e w1 ⟨rfl,hb1⟩;rw[show dD 4 1 7=true from rfl];replace vO:VHas w1 w.heap.size 89 4 (lf [.int .i64 4,.int .i64 N,.int .i64 I,.string T]):=vn vO hb1;replace hC:=hC.next hb1;replace hbl:=aN hbl hbs hb1;clear hb1;have o0:=VHas.cell vO (j:=0) (by omega);simp[lf]at o0
 go_wp2_with fail
 refine (bS 4 4 6 _).mono ?_;rintro e w2 ⟨rfl,hb1⟩;rw[show dD 4 4 6=true from rfl];replace vO:VHas w2 w.heap.size 89 4 (lf [.int .i64 4,.int .i64 N,.int .i64 I,.string T]):=vn vO hb1;replace hC:=hC.next hb1;replace hbl:=aN hbl hbs hb1;clear hb1 o0
 go_wp2_with fail
 have hd:RB w2 w2.drew:=(Below.refl _ _).drew;have hD:=hC.next hd;have hO:VHas w2.drew w.heap.size 89 4 (lf [.int .i64 4,.int .i64 N,.int .i64 I,.string T]):=vn vO hd;replace hbl:=aN hbl hbs hd;clear hC vO hd;have hw24:IntKind.i64.wrap ((q.length:Int)-1)=((q.length:Int)-1):=wi
 obtain⟨b25,qb25⟩:∃ b:Bool,b=(dD (I) (0) (((q.length:Int)-1))):=⟨_,rfl⟩
 obtain⟨b26,qb26⟩:∃ b:Bool,b=(!b25):=⟨_,rfl⟩
 refine bQ (by kernel_rfl) (by kernel_rfl) RB rr rt
  [isV (.pointer (some ⟨w.heap.size,2,none⟩)),isV (.int .i64 I),isV (.pointer (some ⟨b,0,none⟩)),isV (.pointer (some ⟨b,0,none⟩)),isV (.pointer (some ⟨b,1,none⟩)),isV (.slice eo q.length ec),isV (.int .i64 (q.length:Int)),isV (.int .i64 ((q.length:Int)-1)),isV (.bool b25),isV (.bool b26)]
  ⟨iR,iR,iR,iR,iR,iR,iR,iR,iR,iR,trivial⟩ rfl ?_ ?_
 ·refine⟨?_,?_,?_,?_,?_,?_,?_,?_,?_,?_,trivial⟩
  ·exact ow 3
  ·exact oc 0 17 fun _ hR=>(hO.next hR).cell (j:=2) (by omega)
  ·exact ow 0
  ·exact o1 2 19
  ·exact o1 3 20
  ·exact oc 4 21 fun _ hR=>(hD.x.next hR).cell (j:=1) (by omega)
  ·exact o1 5 22
  ·exact mQ 6 23 hw24
  ·exact OpOk.ret _ (fun _=>rfl) fun ev w' v hR E pr=>by
    have e1:=E.eq pr 1 18;have e2:=E.eq pr 7 24;refine⟨40,#[.int .i64 I,.int .i64 0,.int .i64 ((q.length:Int)-1)],by simp[go_sem,gv,e1,e2,E.con,E.fn],?_⟩;rw[qb25];exact bS (I) (0) (((q.length:Int)-1)) _
  ·exact mQ 8 25 qb26
 ·intro v w' hR hp
  obtain⟨_,_,_,_,_,_,_,_,_,p9,_⟩:=hp;replace p9:v 9=.bool b26:=p9;simp only[bF,Nat.zero_add,Nat.reduceAdd,p9,Act.put,sY,sZ,ss];replace hD:=hD.next hR;replace hO:VHas w' w.heap.size 89 4 (lf [.int .i64 4,.int .i64 N,.int .i64 I,.string T]):=vn hO hR;replace hbl:=aN hbl hbs hR;clear hR;rcases bq (dD I 0 ((q.length:Int)-1)) with hto|hto
  rotate_left
  ·rw[qb26,qb25,hto]
   go_wp2;simp[bodyPost,results,Tryz.results64,go_sem];exact⟨⟨_,rfl⟩,⟨l,⟨_,_,_,hD,hP⟩,rfl⟩,hbl⟩
  rw[qb26,qb25,hto];obtain⟨t,rfl,htL⟩:=kB hto;clear qb26 qb25 hto;have ht0:(0:Int)<=(t:Int):=by omega
  have htl:(t:Int)<(q.length:Int):=by omega
  have o0:=VHas.cell hO (j:=0) (by omega);have o1:=VHas.cell hO (j:=1) (by omega);have o2:=VHas.cell hO (j:=2) (by omega);simp[lf]at o0 o1 o2;have hsb:base<=w'.heap.size:=Nat.le_trans hbs hbl.size;have halL:=ra w' (.cells #[] 29);replace hD:=hD.next halL;replace hO:VHas (w'.alloc (.cells #[] 29)) w.heap.size 89 4 (lf [.int .i64 4,.int .i64 N,.int .i64 (t:Int),.string T]):=vn hO halL;replace hbl:=aN hbl hbs halL;have o0:=VHas.cell hO (j:=0) (by omega);have o2:=VHas.cell hO (j:=2) (by omega);simp[lf]at o0 o2
  go_wp2_with fail
  clear o0 o1 o2;refine (rU b base l q _ cap eo ec t _ (Nat.le_trans hbs hbl.size) hbb hD hP htL).mono ?_;rintro e w8 ⟨rfl,⟨l8,hS8,hl8⟩,hbl8⟩
  go_wp2_with fail
  refine (nC b base _ _ cap _ _ _ hS8).mono ?_;rintro e w9 ⟨rfl,e9⟩;subst e9;go_wp2;simp[bodyPost,results,Tryz.results64,go_sem];exact⟨⟨_,rfl⟩,⟨l8,hS8,hl8⟩,kQ hbl hbl8 hbs⟩
theorem F6(b base:Nat)(l:List Nq)(q:List Mq)(ao:Option Addr)(cap:Nat)(eo:Option Addr)(ec:Nat)(N I:Int)(T:ByteArray)(hT:T.size<=1048576)(w:World)(hbs:base<=w.heap.size)(hbb:base<=b)(hC:ClB w b base l q ao cap eo ec)(hP:ClP l q):Calls Tryz.prog 64 #[.pointer (some ⟨b,0,none⟩),.agg #[.int .i64 5,.int .i64 N,.int .i64 I,.string T]] w fun e w'=>CI b base l.length ao cap w w' e:=by
 have hq200:=hP.net;have hl5:=hP.len;obtain⟨g,eg,hgb,_⟩:=GOwn.vhas hC.n (by omega);subst eg;have hal:=ra w (.cells #[.int .i64 5,.int .i64 N,.int .i64 I,.string T] 89);have vO:VHas (w.alloc (.cells #[.int .i64 5,.int .i64 N,.int .i64 I,.string T] 89)) w.heap.size 89 4 (lf [.int .i64 5,.int .i64 N,.int .i64 I,.string T]):=bH w [.int .i64 5,.int .i64 N,.int .i64 I,.string T] 89;have hbl:=aN (Below.refl base w) hbs hal;replace hC:=hC.next hal;clear hal;go_enter Tryz.func64,Tryz.ntmps64;have o0:=VHas.cell vO (j:=0) (by omega);simp[lf]at o0
 go_wp2_with fail
 clear o0;generalize (w.alloc (.cells #[.int .i64 5,.int .i64 N,.int .i64 I,.string T] 89))=W at vO hbl hC ⊢;refine (bS 5 1 7 _).mono ?_;rintro e w1 ⟨rfl,hb1⟩;rw[show dD 5 1 7=true from rfl];replace vO:VHas w1 w.heap.size 89 4 (lf [.int .i64 5,.int .i64 N,.int .i64 I,.string T]):=vn vO hb1;replace hC:=hC.next hb1;replace hbl:=aN hbl hbs hb1;clear hb1;have o0:=VHas.cell vO (j:=0) (by omega);simp[lf]at o0
 go_wp2_with fail
 refine (bS 5 4 6 _).mono ?_;rintro e w2 ⟨rfl,hb1⟩;rw[show dD 5 4 6=true from rfl];replace vO:VHas w2 w.heap.size 89 4 (lf [.int .i64 5,.int .i64 N,.int .i64 I,.string T]):=vn vO hb1;replace hC:=hC.next hb1;replace hbl:=aN hbl hbs hb1;clear hb1 o0
 go_wp2_with fail
 have hd:RB w2 w2.drew:=(Below.refl _ _).drew;have hD:=hC.next hd;have hO:VHas w2.drew w.heap.size 89 4 (lf [.int .i64 5,.int .i64 N,.int .i64 I,.string T]):=vn vO hd;replace hbl:=aN hbl hbs hd;clear hC vO hd;have hw24:IntKind.i64.wrap ((q.length:Int)-1)=((q.length:Int)-1):=wi
 obtain⟨b25,qb25⟩:∃ b:Bool,b=(dD (I) (0) (((q.length:Int)-1))):=⟨_,rfl⟩
 obtain⟨b26,qb26⟩:∃ b:Bool,b=(!b25):=⟨_,rfl⟩
 refine bQ (by kernel_rfl) (by kernel_rfl) RB rr rt
  [isV (.pointer (some ⟨w.heap.size,2,none⟩)),isV (.int .i64 I),isV (.pointer (some ⟨b,0,none⟩)),isV (.pointer (some ⟨b,0,none⟩)),isV (.pointer (some ⟨b,1,none⟩)),isV (.slice eo q.length ec),isV (.int .i64 (q.length:Int)),isV (.int .i64 ((q.length:Int)-1)),isV (.bool b25),isV (.bool b26)]
  ⟨iR,iR,iR,iR,iR,iR,iR,iR,iR,iR,trivial⟩ rfl ?_ ?_
 ·refine⟨?_,?_,?_,?_,?_,?_,?_,?_,?_,?_,trivial⟩
  ·exact ow 3
  ·exact oc 0 17 fun _ hR=>(hO.next hR).cell (j:=2) (by omega)
  ·exact ow 0
  ·exact o1 2 19
  ·exact o1 3 20
  ·exact oc 4 21 fun _ hR=>(hD.x.next hR).cell (j:=1) (by omega)
  ·exact o1 5 22
  ·exact mQ 6 23 hw24
  ·exact OpOk.ret _ (fun _=>rfl) fun ev w' v hR E pr=>by
    have e1:=E.eq pr 1 18;have e2:=E.eq pr 7 24;refine⟨40,#[.int .i64 I,.int .i64 0,.int .i64 ((q.length:Int)-1)],by simp[go_sem,gv,e1,e2,E.con,E.fn],?_⟩;rw[qb25];exact bS (I) (0) (((q.length:Int)-1)) _
  ·exact mQ 8 25 qb26
 ·intro v w' hR hp
  obtain⟨_,_,_,_,_,_,_,_,_,p9,_⟩:=hp;replace p9:v 9=.bool b26:=p9;simp only[bF,Nat.zero_add,Nat.reduceAdd,p9,Act.put,sY,sZ,ss];replace hD:=hD.next hR;replace hO:VHas w' w.heap.size 89 4 (lf [.int .i64 5,.int .i64 N,.int .i64 I,.string T]):=vn hO hR;replace hbl:=aN hbl hbs hR;clear hR;rcases bq (dD I 0 ((q.length:Int)-1)) with hto|hto
  rotate_left
  ·rw[qb26,qb25,hto]
   go_wp2;simp[bodyPost,results,Tryz.results64,go_sem];exact⟨⟨_,rfl⟩,⟨l,⟨_,_,_,hD,hP⟩,rfl⟩,hbl⟩
  rw[qb26,qb25,hto];obtain⟨t,rfl,htL⟩:=kB hto;clear qb26 qb25 hto;have ht0:(0:Int)<=(t:Int):=by omega
  have htl:(t:Int)<(q.length:Int):=by omega
  have o0:=VHas.cell hO (j:=0) (by omega);have o1:=VHas.cell hO (j:=1) (by omega);have o2:=VHas.cell hO (j:=2) (by omega);simp[lf]at o0 o1 o2;have hsb:base<=w'.heap.size:=Nat.le_trans hbs hbl.size;have halL:=ra w' (.cells #[] 29);replace hD:=hD.next halL;replace hO:VHas (w'.alloc (.cells #[] 29)) w.heap.size 89 4 (lf [.int .i64 5,.int .i64 N,.int .i64 (t:Int),.string T]):=vn hO halL;replace hbl:=aN hbl hbs halL;have o0:=VHas.cell hO (j:=0) (by omega);simp[lf]at o0
  go_wp2_with fail
  clear o0 o1 o2;have hd:RB (w'.alloc (.cells #[] 29)) (w'.alloc (.cells #[] 29)).drew:=(Below.refl _ _).drew;replace hD:=hD.next hd;replace hO:VHas (w'.alloc (.cells #[] 29)).drew w.heap.size 89 4 (lf [.int .i64 5,.int .i64 N,.int .i64 (t:Int),.string T]):=vn hO hd;replace hbl:=aN hbl hbs hd;have hbd:base<=(w'.alloc (.cells #[] 29)).drew.heap.size:=Nat.le_trans hbs hbl.size;have hqc:q.length<=ec:=GOwn.cap hD.m.o;clear hd;have hw122:IntKind.i64.wrap ((t:Int)+1)=((t:Int)+1):=wi
  refine lU (by kernel_rfl) (by kernel_rfl) (by kernel_rfl) 18 [1,2,3,4,5,6,7,8,9,10,11,12,13,14,15,16,17] [0,19,20] (by kernel_rfl) (by kernel_rfl) (fun _ _=>True)
   (fun W5=>RB (w'.alloc (.cells #[] 29)).drew W5) (fun a9 b9 h hb=>rt _ _ _ h hb)
   [isV (.pointer (some ⟨b,0,none⟩)),LE (w'.alloc (.cells #[] 29)).drew.heap.size 29,isV (.pointer (some ⟨b,0,none⟩)),isV (.pointer (some ⟨b,0,none⟩)),isV (.pointer (some ⟨b,1,none⟩)),isV (.slice eo q.length ec),isV (.pointer (some ⟨w.heap.size,2,none⟩)),isV (.int .i64 (t:Int)),SlM (q.take t),NtH (w'.alloc (.cells #[] 29)).drew.heap.size base (q.take t),isV (.pointer (some ⟨b,0,none⟩)),isV (.pointer (some ⟨b,0,none⟩)),isV (.pointer (some ⟨b,1,none⟩)),isV (.slice eo q.length ec),isV (.pointer (some ⟨w.heap.size,2,none⟩)),isV (.int .i64 (t:Int)),isV (.int .i64 ((t:Int)+1)),SlM (q.drop (t+1)),NtH (w'.alloc (.cells #[] 29)).drew.heap.size base (q.take t++q.drop (t+1)),isV (.pointer (some ⟨b,0,none⟩)),isV (.pointer (some ⟨b,1,none⟩))]
   ⟨iR,LE.rb,iR,iR,iR,iR,iR,iR,SlM.rb,NtH.rb,iR,iR,iR,iR,iR,iR,iR,SlM.rb,NtH.rb,iR,iR,trivial⟩ rfl ?_ ?_ ?_ ?_ _ rfl rfl rfl
   (fun v9 W9=>∃ a c,ClB W9 b base l (q.take t++q.drop (t+1)) (some ⟨g,0,none⟩) cap a c/\(True)/\Below base w W9) ?_ ?_
  ·intro i hi v w1 w2 h hx
   simp only[List.mem_cons,List.not_mem_nil,or_false]at hi;rcases hi with rfl|rfl|rfl<;>exact h
  ·intro i hi o ho
   simp only[List.mem_cons,List.not_mem_nil,or_false]at hi;rcases hi with rfl|rfl|rfl|rfl|rfl|rfl|rfl|rfl|rfl|rfl|rfl|rfl|rfl|rfl|rfl|rfl|rfl<;>(obtain rfl:=oI ho)
   ·refine OpOk.val rfl fun ev w9 v hR E pr=>?_
    exact⟨.slice (some ⟨w9.heap.size,0,none⟩) 0 0,w9.alloc (.cells #[] 29),(by (simp[go_sem])<;>rfl),ra _ _,LE.new w9 _ 29 hR.size⟩
   ·exact ow 0
   ·exact o1 2 108
   ·exact o1 3 109
   ·exact oc 4 110 fun _ hR=>(hD.x.next hR).cell (j:=1) (by omega)
   ·exact ow 3
   ·exact oc 6 112 fun _ hR=>(hO.next hR).cell (j:=2) (by omega)
   ·refine OpOk.val rfl fun ev w9 v hR E pr=>?_
    have e1:=E.eq pr 5 111;have e2:=E.eq pr 7 113;exact U7 rfl e1 e2 (by omega) hqc ((GOwn.lrow hD.m.o (dX q)).next hR)
   ·refine OpOk.val rfl fun ev w9 v hR E pr=>?_
    have e1:LE (w'.alloc (.cells #[] 29)).drew.heap.size 29 (ev (.tmp 107)) w9:=E.get pr 1 107;have e2:SlM (q.take t) (ev (.tmp 114)) w9:=E.get pr 8 114;exact K8 rfl e1 e2 (fun z h=>(hD.m.e z (List.mem_of_mem_take h)).next hR) (by simp;omega) hR.size
   ·exact ow 0
   ·exact o1 10 116
   ·exact o1 11 117
   ·exact oc 12 118 fun _ hR=>(hD.x.next hR).cell (j:=1) (by omega)
   ·exact ow 3
   ·exact oc 14 120 fun _ hR=>(hO.next hR).cell (j:=2) (by omega)
   ·exact mQ 15 121 hw122
   ·refine OpOk.val rfl fun ev w9 v hR E pr=>?_
    have e1:=E.eq pr 13 119;have e2:=E.eq pr 16 122;exact zO rfl e1 e2 (by omega) hqc ((GOwn.lrow hD.m.o (dX q)).next hR)
  ·intro i h1 h2 h3 o ho
   have hc3:i=0\/i=19\/i=20:=by
    simp at h1 h3;omega
   rcases hc3 with rfl|rfl|rfl<;>(obtain rfl:=oI ho)
   ·exact LateOk.get _ (fun _=>rfl) fun ev w9 v hR E pr=>by
     have e1:=E.was 0 _;simp[go_sem,E.con,e1]
   ·exact LateOk.get _ (fun _=>rfl) fun ev w9 v hR E pr=>by
     have e1:ev (.tmp 106)=.pointer (some ⟨b,0,none⟩):=E.kept pr 0 106;simp[go_sem,E.con,e1]
   ·exact LateOk.get _ (fun _=>rfl) fun ev w9 v hR E pr=>by
     have e1:ev (.tmp 125)=.pointer (some ⟨b,0,none⟩):=E.kept pr 19 125;simp[go_sem,E.con,e1]
  ·intro o ho
   obtain rfl:=oI ho;refine MidOk.val fun ev w9 v hR E pr=>?_
   have e1:NtH (w'.alloc (.cells #[] 29)).drew.heap.size base (q.take t) (ev (.tmp 115)) w9:=E.get pr 9 115;have e2:SlM (q.drop (t+1)) (ev (.tmp 123)) w9:=E.get pr 17 123;exact zP rfl e1 e2 (fun z h=>(hD.m.e z (List.mem_of_mem_drop h)).next hR) (by simp;omega) hR
  ·rintro ev w9 v hP9 E hk
   have k1:=hk 20 (by simp);have k2:=hk 18 (by simp);have E1:=E.at_ 20 126 rfl (by kernel_rfl) (nb (by kernel_rfl));have E2:=E.at_ 18 124 rfl (by kernel_rfl) (nb (by kernel_rfl));obtain⟨a,c,e1,hN9,hE9⟩:NtH (w'.alloc (.cells #[] 29)).drew.heap.size base (q.take t++q.drop (t+1)) (v 18) w9:=k2;have e2:v 20=.pointer (some ⟨b,1,none⟩):=k1;rw[e2]at E1;rw[e1]at E2;have h9:=hD.next hP9;have g9:=aC w9 b 1 (.slice a (q.take t++q.drop (t+1)).length c);have hT:∀ x,some b=some x->aG w9 x 54:=fun x e=>by cases e;exact VHas.typed h9.x
   exact⟨_,cI rfl E1 E2 h9.x (by omega) (by kernel_rfl) rfl (dT rfl),fun _ _=>⟨a,c,⟨(VHas.set h9.x 1 _).congr (fun j hj=>by
    have:j=0\/j=1:=by omega
    rcases this with rfl|rfl<;>simp[lf]),GOwn.gr h9.n g9 hT (by decide),⟨GOwn.from (GOwn.gr hN9 g9 hT (by decide)) hbd,fun y hy=>(hE9 y hy).gr g9 hT (by decide)⟩,fun y hy=>(h9.nl y hy).gr g9 hT (by decide) (by decide)⟩,trivial,kI (aN hbl hbs hP9) hbs g9 (fun x e=>by cases e;exact hbb)⟩⟩
  ·intro v8 W8 hF8
   simp only[bF,Nat.zero_add,Nat.reduceAdd,Act.put,sY,sZ,ss];obtain⟨a9,c9,hC9,_,hbl9⟩:=hF8;have hPn:=hP.less t
   go_wp2_with fail
   refine (nC b base _ _ cap _ _ _ ⟨_,_,_,hC9,hPn⟩).mono ?_;rintro e w9 ⟨rfl,e9⟩;subst e9;go_wp2;simp[bodyPost,results,Tryz.results64,go_sem];exact⟨⟨_,rfl⟩,⟨l,⟨_,_,_,hC9,hPn⟩,rfl⟩,hbl9⟩
theorem D5(b base:Nat)(l:List Nq)(q:List Mq)(ao:Option Addr)(cap:Nat)(eo:Option Addr)(ec:Nat)(N I:Int)(T:ByteArray)(hT:T.size<=1048576)(w:World)(hbs:base<=w.heap.size)(hbb:base<=b)(hC:ClB w b base l q ao cap eo ec)(hP:ClP l q):Calls Tryz.prog 64 #[.pointer (some ⟨b,0,none⟩),.agg #[.int .i64 6,.int .i64 N,.int .i64 I,.string T]] w fun e w'=>CI b base l.length ao cap w w' e:=by
 have hq200:=hP.net;have hl5:=hP.len;obtain⟨g,eg,hgb,_⟩:=GOwn.vhas hC.n (by omega);subst eg;have hal:=ra w (.cells #[.int .i64 6,.int .i64 N,.int .i64 I,.string T] 89);have vO:VHas (w.alloc (.cells #[.int .i64 6,.int .i64 N,.int .i64 I,.string T] 89)) w.heap.size 89 4 (lf [.int .i64 6,.int .i64 N,.int .i64 I,.string T]):=bH w [.int .i64 6,.int .i64 N,.int .i64 I,.string T] 89;have hbl:=aN (Below.refl base w) hbs hal;replace hC:=hC.next hal;clear hal;go_enter Tryz.func64,Tryz.ntmps64;have o0:=VHas.cell vO (j:=0) (by omega);simp[lf]at o0
 go_wp2_with fail
 clear o0;generalize (w.alloc (.cells #[.int .i64 6,.int .i64 N,.int .i64 I,.string T] 89))=W at vO hbl hC ⊢;refine (bS 6 1 7 _).mono ?_;rintro e w1 ⟨rfl,hb1⟩;rw[show dD 6 1 7=true from rfl];replace vO:VHas w1 w.heap.size 89 4 (lf [.int .i64 6,.int .i64 N,.int .i64 I,.string T]):=vn vO hb1;replace hC:=hC.next hb1;replace hbl:=aN hbl hbs hb1;clear hb1;have o0:=VHas.cell vO (j:=0) (by omega);simp[lf]at o0
 go_wp2_with fail
 refine (bS 6 4 6 _).mono ?_;rintro e w2 ⟨rfl,hb1⟩;rw[show dD 6 4 6=true from rfl];replace vO:VHas w2 w.heap.size 89 4 (lf [.int .i64 6,.int .i64 N,.int .i64 I,.string T]):=vn vO hb1;replace hC:=hC.next hb1;replace hbl:=aN hbl hbs hb1;clear hb1 o0
 go_wp2_with fail
 have hd:RB w2 w2.drew:=(Below.refl _ _).drew;have hD:=hC.next hd;have hO:VHas w2.drew w.heap.size 89 4 (lf [.int .i64 6,.int .i64 N,.int .i64 I,.string T]):=vn vO hd;replace hbl:=aN hbl hbs hd;clear hC vO hd;have hw24:IntKind.i64.wrap ((q.length:Int)-1)=((q.length:Int)-1):=wi
 obtain⟨b25,qb25⟩:∃ b:Bool,b=(dD (I) (0) (((q.length:Int)-1))):=⟨_,rfl⟩
 obtain⟨b26,qb26⟩:∃ b:Bool,b=(!b25):=⟨_,rfl⟩
 refine bQ (by kernel_rfl) (by kernel_rfl) RB rr rt
  [isV (.pointer (some ⟨w.heap.size,2,none⟩)),isV (.int .i64 I),isV (.pointer (some ⟨b,0,none⟩)),isV (.pointer (some ⟨b,0,none⟩)),isV (.pointer (some ⟨b,1,none⟩)),isV (.slice eo q.length ec),isV (.int .i64 (q.length:Int)),isV (.int .i64 ((q.length:Int)-1)),isV (.bool b25),isV (.bool b26)]
  ⟨iR,iR,iR,iR,iR,iR,iR,iR,iR,iR,trivial⟩ rfl ?_ ?_
 ·refine⟨?_,?_,?_,?_,?_,?_,?_,?_,?_,?_,trivial⟩
  ·exact ow 3
  ·exact oc 0 17 fun _ hR=>(hO.next hR).cell (j:=2) (by omega)
  ·exact ow 0
  ·exact o1 2 19
  ·exact o1 3 20
  ·exact oc 4 21 fun _ hR=>(hD.x.next hR).cell (j:=1) (by omega)
  ·exact o1 5 22
  ·exact mQ 6 23 hw24
  ·exact OpOk.ret _ (fun _=>rfl) fun ev w' v hR E pr=>by
    have e1:=E.eq pr 1 18;have e2:=E.eq pr 7 24;refine⟨40,#[.int .i64 I,.int .i64 0,.int .i64 ((q.length:Int)-1)],by simp[go_sem,gv,e1,e2,E.con,E.fn],?_⟩;rw[qb25];exact bS (I) (0) (((q.length:Int)-1)) _
  ·exact mQ 8 25 qb26
 ·intro v w' hR hp
  obtain⟨_,_,_,_,_,_,_,_,_,p9,_⟩:=hp;replace p9:v 9=.bool b26:=p9;simp only[bF,Nat.zero_add,Nat.reduceAdd,p9,Act.put,sY,sZ,ss];replace hD:=hD.next hR;replace hO:VHas w' w.heap.size 89 4 (lf [.int .i64 6,.int .i64 N,.int .i64 I,.string T]):=vn hO hR;replace hbl:=aN hbl hbs hR;clear hR;rcases bq (dD I 0 ((q.length:Int)-1)) with hto|hto
  rotate_left
  ·rw[qb26,qb25,hto]
   go_wp2;simp[bodyPost,results,Tryz.results64,go_sem];exact⟨⟨_,rfl⟩,⟨l,⟨_,_,_,hD,hP⟩,rfl⟩,hbl⟩
  rw[qb26,qb25,hto];obtain⟨t,rfl,htL⟩:=kB hto;clear qb26 qb25 hto;have ht0:(0:Int)<=(t:Int):=by omega
  have htl:(t:Int)<(q.length:Int):=by omega
  have o0:=VHas.cell hO (j:=0) (by omega);have o1:=VHas.cell hO (j:=1) (by omega);have o2:=VHas.cell hO (j:=2) (by omega);simp[lf]at o0 o1 o2;have hsb:base<=w'.heap.size:=Nat.le_trans hbs hbl.size;obtain⟨ge,ege,hgeb,_⟩:=GOwn.vhas hD.m.o (by omega);subst ege;obtain⟨z,hz⟩:∃ z,q[t]?=some z:=⟨q[t],by simp[htL]⟩
  have hzm:z∈q:=List.mem_of_getElem? hz;have hzw:=hP.ms z hzm;have hD0:=hD;have hbl0:=hbl;have hA0:∀ x,(Value.slice (some ⟨ge,0,none⟩) q.length ec).ownBlock=some x->x<w'.heap.size:=fun x e=>(GOwn.at hD.m.o e).2
  have halL:=ra w' (.cells #[] 29);replace hD:=hD.next halL;replace hO:VHas (w'.alloc (.cells #[] 29)) w.heap.size 89 4 (lf [.int .i64 6,.int .i64 N,.int .i64 (t:Int),.string T]):=vn hO halL;replace hbl:=aN hbl hbs halL;have o0:=VHas.cell hO (j:=0) (by omega);simp[lf]at o0
  go_wp2_with fail
  clear o0 o1 o2;have hd:RB (w'.alloc (.cells #[] 29)) (w'.alloc (.cells #[] 29)).drew:=(Below.refl _ _).drew;have hNe:NetO (w'.alloc (.cells #[] 29)).drew w'.heap.size (some ⟨w'.heap.size,0,none⟩) 0 []:=NetO.next ⟨GOwn.empty _ _ _ _,fun z hz=>by cases hz⟩ hd;have hRw:RB w' (w'.alloc (.cells #[] 29)).drew:=rt _ _ _ halL hd;have hsw:w'.heap.size<=(w'.alloc (.cells #[] 29)).drew.heap.size:=hRw.size;replace hD:=hD.next hd;replace hO:VHas (w'.alloc (.cells #[] 29)).drew w.heap.size 89 4 (lf [.int .i64 6,.int .i64 N,.int .i64 (t:Int),.string T]):=vn hO hd;have hzE:=hD.m.e z hzm;clear hd halL
  refine kD (by kernel_rfl) (by kernel_rfl) RB rr rt
   [isV (.slice (some ⟨w'.heap.size,0,none⟩) 0 0),isV (.pointer (some ⟨b,0,none⟩)),isV (.pointer (some ⟨b,0,none⟩)),isV (.pointer (some ⟨b,1,none⟩)),isV (.slice (some ⟨ge,0,none⟩) q.length ec),isV (.pointer (some ⟨w.heap.size,2,none⟩)),isV (.int .i64 (t:Int)),isV (.pointer (some ⟨ge,t*9,none⟩)),isV (eS z.m z.eo z.ec),MgV w'.heap.size z.m,Mg1 w'.heap.size z.m]
   ⟨iR,iR,iR,iR,iR,iR,iR,iR,iR,MgV.rb,Mg1.rb,trivial⟩ (by kernel_rfl) _ _ rfl rfl (by kernel_rfl) (by kernel_rfl) (by kernel_rfl) ?_
   (fun v u w9=>NetV w'.heap.size [z.m] u w9/\RB w' w9) ?_ ?_
  ·simp only[List.size_toArray,List.length_cons,List.length_nil,Nat.reduceAdd,Nat.reduceSub,List.take_succ_cons,List.take_zero]
   refine⟨?_,?_,?_,?_,?_,?_,?_,?_,?_,?_,?_,trivial⟩
   ·exact ow 5
   ·exact ow 0
   ·exact o1 1 130
   ·exact o1 2 131
   ·exact oc 3 132 fun _ hR=>(hD.x.next hR).cell (j:=1) (by omega)
   ·exact ow 3
   ·exact oc 5 134 fun _ hR=>(hO.next hR).cell (j:=2) (by omega)
   ·exact oq rfl fun ev w9 v hR E pr=>by
     have e1:=E.eq pr 4 133;have e2:=E.eq pr 6 135;simp[go_sem,ht0,htl,e1,e2]
   ·exact oq rfl fun ev w9 v hR E pr=>by
     have e1:=E.eq pr 7 136;exact qG rfl e1 (GOwn.next hD.m.o hR) hz
   ·refine OpOk.call rfl fun ev w9 v hR E pr=>?_
    have e1:=E.eq pr 8 137;refine⟨98,#[eS z.m z.eo z.ec],by simp[go_sem,e1,E.fn],?_⟩;refine (tC z.m z.eo z.ec hzw.z.l w9 (hzE.next hR).row).mono ?_;rintro e w8 ⟨hm,⟨v',rfl⟩,hb⟩;obtain⟨a,c,e2,hO2⟩:=hm;exact⟨_,rfl,hb,a,c,e2,GOwn.from hO2 (Nat.le_trans hsw hR.size)⟩
   ·refine OpOk.val rfl fun ev w9 v hR E pr=>?_
    obtain⟨a,c,e1,ho⟩:MgV w'.heap.size z.m (ev (.tmp 138)) w9:=E.get pr 9 138;exact⟨.slice (some ⟨w9.heap.size,0,none⟩) 1 1,w9.alloc (.cells (bZ z.m a c).toArray 29),(by (simp[go_sem,e1])<;>rfl),ra _ _,_,a,c,rfl,bJ w9 z.m a c,ho.next (ra _ _)⟩
  ·intro ev w9 v hR E hp
   obtain⟨p0,_,_,_,_,_,_,_,_,_,p10,_⟩:=hp;have E0:=E.at_ 0 129 rfl (by kernel_rfl) (nb (by kernel_rfl));have E1:=E.at_ 10 139 rfl (by kernel_rfl) (nb (by kernel_rfl));have hN9:=hNe.next hR;refine iY (xF (l:=[]) rfl (E0.trans p0) hN9 (by rw[E1];exact p10) (by simp) (Nat.le_trans hsw hR.size)) ?_;rintro u w8 ⟨hv,hg⟩;exact⟨by simpa using hv,jO (rt _ _ _ hRw hR) hg (fun x e=>(GOwn.at hN9.o e).1)⟩
  ·rintro v u w9 ⟨hv9,hR9⟩
   simp only[List.size_toArray,List.length_cons,List.length_nil,Nat.reduceAdd,Nat.reduceSub,List.take_succ_cons,List.take_zero,bF,Nat.zero_add,Act.put,sY,sZ,ss];refine⟨u,by simp[go_sem],?_⟩;have hC9:=hD0.next hR9;have hbl9:=aN hbl0 hbs hR9;have hS8:FL l.length w' u w9:=⟨_,hv9,fun m hm=>by rw[List.mem_singleton.1 hm];exact hzw,by simp⟩
   have hszW:w'.heap.size<=w9.heap.size:=hR9.size;clear hv9
   go_wp2_with fail
   refine (nD b base _ q _ cap (some ⟨ge,0,none⟩) ec u w' _ hsb hszW hbb hC9 hA0 hP hS8).mono ?_;rintro e w10 ⟨rfl,hS9,hbl9'⟩;go_wp2;simp[bodyPost,results,Tryz.results64,go_sem];exact⟨⟨_,rfl⟩,⟨_,hS9,rfl⟩,kQ hbl9 hbl9' hbs⟩
theorem J5(b base:Nat)(l:List Nq)(q:List Mq)(ao:Option Addr)(cap:Nat)(eo:Option Addr)(ec:Nat)(N I:Int)(T:ByteArray)(hT:T.size<=1048576)(w:World)(hbs:base<=w.heap.size)(hbb:base<=b)(hC:ClB w b base l q ao cap eo ec)(hP:ClP l q):Calls Tryz.prog 64 #[.pointer (some ⟨b,0,none⟩),.agg #[.int .i64 7,.int .i64 N,.int .i64 I,.string T]] w fun e w'=>CI b base l.length ao cap w w' e:=by
 have hq200:=hP.net;have hl5:=hP.len;obtain⟨g,eg,hgb,_⟩:=GOwn.vhas hC.n (by omega);subst eg;have hal:=ra w (.cells #[.int .i64 7,.int .i64 N,.int .i64 I,.string T] 89);have vO:VHas (w.alloc (.cells #[.int .i64 7,.int .i64 N,.int .i64 I,.string T] 89)) w.heap.size 89 4 (lf [.int .i64 7,.int .i64 N,.int .i64 I,.string T]):=bH w [.int .i64 7,.int .i64 N,.int .i64 I,.string T] 89;have hbl:=aN (Below.refl base w) hbs hal;replace hC:=hC.next hal;clear hal;go_enter Tryz.func64,Tryz.ntmps64;have o0:=VHas.cell vO (j:=0) (by omega);simp[lf]at o0
 go_wp2_with fail
 clear o0;generalize (w.alloc (.cells #[.int .i64 7,.int .i64 N,.int .i64 I,.string T] 89))=W at vO hbl hC ⊢;refine (bS 7 1 7 _).mono ?_;rintro e w1 ⟨rfl,hb1⟩;rw[show dD 7 1 7=true from rfl];replace vO:VHas w1 w.heap.size 89 4 (lf [.int .i64 7,.int .i64 N,.int .i64 I,.string T]):=vn vO hb1;replace hC:=hC.next hb1;replace hbl:=aN hbl hbs hb1;clear hb1;have o0:=VHas.cell vO (j:=0) (by omega);simp[lf]at o0
 go_wp2_with fail
 refine (bS 7 4 6 _).mono ?_;rintro e w2 ⟨rfl,hb1⟩;rw[show dD 7 4 6=false from rfl];replace vO:VHas w2 w.heap.size 89 4 (lf [.int .i64 7,.int .i64 N,.int .i64 I,.string T]):=vn vO hb1;replace hC:=hC.next hb1;replace hbl:=aN hbl hbs hb1;clear hb1 o0
 go_wp2_with fail
 have hd:RB w2 w2.drew:=(Below.refl _ _).drew;have hD:=hC.next hd;have hO:VHas w2.drew w.heap.size 89 4 (lf [.int .i64 7,.int .i64 N,.int .i64 I,.string T]):=vn vO hd;replace hbl:=aN hbl hbs hd;clear hC vO hd;have hw35:IntKind.i64.wrap ((l.length:Int)-1)=((l.length:Int)-1):=wi
 obtain⟨b36,qb36⟩:∃ b:Bool,b=(dD (N) (0) (((l.length:Int)-1))):=⟨_,rfl⟩
 obtain⟨b37,qb37⟩:∃ b:Bool,b=(!b36):=⟨_,rfl⟩
 refine bQ (by kernel_rfl) (by kernel_rfl) RB rr rt
  [isV (.pointer (some ⟨w.heap.size,1,none⟩)),isV (.int .i64 N),isV (.pointer (some ⟨b,0,none⟩)),isV (.pointer (some ⟨b,0,none⟩)),isV (.pointer (some ⟨b,0,none⟩)),isV (.slice (some ⟨g,0,none⟩) l.length cap),isV (.int .i64 (l.length:Int)),isV (.int .i64 ((l.length:Int)-1)),isV (.bool b36),isV (.bool b37),isV (.bool b37)]
  ⟨iR,iR,iR,iR,iR,iR,iR,iR,iR,iR,iR,trivial⟩ rfl ?_ ?_
 ·refine⟨?_,?_,?_,?_,?_,?_,?_,?_,?_,?_,?_,trivial⟩
  ·exact ow 3
  ·exact oc 0 28 fun _ hR=>(hO.next hR).cell (j:=1) (by omega)
  ·exact ow 0
  ·exact o1 2 30
  ·exact o1 3 31
  ·exact oc 4 32 fun _ hR=>(hD.x.next hR).cell (j:=0) (by omega)
  ·exact o1 5 33
  ·exact mQ 6 34 hw35
  ·exact OpOk.ret _ (fun _=>rfl) fun ev w' v hR E pr=>by
    have e1:=E.eq pr 1 29;have e2:=E.eq pr 7 35;refine⟨40,#[.int .i64 N,.int .i64 0,.int .i64 ((l.length:Int)-1)],by simp[go_sem,gv,e1,e2,E.con,E.fn],?_⟩;rw[qb36];exact bS (N) (0) (((l.length:Int)-1)) _
  ·exact mQ 8 36 qb37
  ·exact o1 9 37
 ·intro v w' hR hp
  obtain⟨_,_,_,_,_,_,_,_,_,_,p10,_⟩:=hp;replace p10:v 10=.bool b37:=p10;simp only[bF,Nat.zero_add,Nat.reduceAdd,p10,Act.put,sY,sZ,ss];replace hD:=hD.next hR;replace hO:VHas w' w.heap.size 89 4 (lf [.int .i64 7,.int .i64 N,.int .i64 I,.string T]):=vn hO hR;replace hbl:=aN hbl hbs hR;clear hR;rcases bq (dD N 0 ((l.length:Int)-1)) with hto|hto
  rotate_left
  ·rw[qb37,qb36,hto]
   go_wp2;simp[bodyPost,results,Tryz.results64,go_sem];exact⟨⟨_,rfl⟩,⟨l,⟨_,_,_,hD,hP⟩,rfl⟩,hbl⟩
  rw[qb37,qb36,hto];obtain⟨t,rfl,htL⟩:=kB hto;clear qb37 qb36 hto;have ht0:(0:Int)<=(t:Int):=by omega
  have htl:(t:Int)<(l.length:Int):=by omega
  have o0:=VHas.cell hO (j:=0) (by omega);have o1:=VHas.cell hO (j:=1) (by omega);have o2:=VHas.cell hO (j:=2) (by omega);simp[lf]at o0 o1 o2;have hsb:base<=w'.heap.size:=Nat.le_trans hbs hbl.size;have halL:=ra w' (.cells #[] 29);replace hD:=hD.next halL;replace hO:VHas (w'.alloc (.cells #[] 29)) w.heap.size 89 4 (lf [.int .i64 7,.int .i64 (t:Int),.int .i64 I,.string T]):=vn hO halL;replace hbl:=aN hbl hbs halL;obtain⟨y,hy⟩:=lW htL;obtain⟨hyk,hyi,hyp,hyt⟩:=hP.ok t y hy;have o0:=VHas.cell hO (j:=0) (by omega);simp[lf]at o0
  go_wp2_with fail
  clear o0 o1 o2;have hd:RB (w'.alloc (.cells #[] 29)) (w'.alloc (.cells #[] 29)).drew:=(Below.refl _ _).drew;replace hD:=hD.next hd;replace hO:VHas (w'.alloc (.cells #[] 29)).drew w.heap.size 89 4 (lf [.int .i64 7,.int .i64 (t:Int),.int .i64 I,.string T]):=vn hO hd;replace hbl:=aN hbl hbs hd;have hyO:=hD.nl y (List.mem_of_getElem? hy);have hyz:NdZ y.n y.s:=hyk.zz hyt hyO.K;have hWs:base<=(w'.alloc (.cells #[] 29)).drew.heap.size:=Nat.le_trans hbs hbl.size;have hA9:∀ x,(Value.slice eo q.length ec).ownBlock=some x->x<(w'.alloc (.cells #[] 29)).drew.heap.size:=fun x e=>(GOwn.at hD.m.o e).2
  clear hd
  refine bW (by kernel_rfl) (by kernel_rfl) (by kernel_rfl) RB rr rt
   [isV (.pointer (some ⟨b,0,none⟩)),isV (.pointer (some ⟨b,0,none⟩)),isV (.pointer (some ⟨b,0,none⟩)),isV (.slice (some ⟨g,0,none⟩) l.length cap),isV (.pointer (some ⟨w.heap.size,1,none⟩)),isV (.int .i64 (t:Int)),isV (.pointer (some ⟨b,0,none⟩)),isV (.pointer (some ⟨b,0,none⟩)),isV (.pointer (some ⟨b,0,none⟩)),isV (.slice (some ⟨g,0,none⟩) l.length cap),isV (.pointer (some ⟨w.heap.size,1,none⟩)),isV (.int .i64 (t:Int)),isV (.pointer (some ⟨g,t*10,none⟩)),isV (aX y.n y.s),CpV (w'.alloc (.cells #[] 29)).drew.heap.size (wW y.n),isV (.pointer (some ⟨g,t*10,none⟩))]
   ⟨iR,iR,iR,iR,iR,iR,iR,iR,iR,iR,iR,iR,iR,iR,CpV.rb,iR,trivial⟩ rfl ?_ _ rfl rfl rfl
   (fun v9 W9=>(∃ s5,ClB W9 b base (l.set t ⟨(wW y.n),s5⟩) q (some ⟨g,0,none⟩) cap eo ec)/\True/\Below base w W9) ?_ ?_
  ·simp only[List.size_toArray,List.length_cons,List.length_nil,Nat.reduceAdd,Nat.reduceSub,List.take_succ_cons,List.take_zero]
   refine⟨?_,?_,?_,?_,?_,?_,?_,?_,?_,?_,?_,?_,?_,?_,?_,?_,trivial⟩
   ·exact ow 0
   ·exact o1 0 143
   ·exact o1 1 144
   ·exact oc 2 145 fun _ hR=>(hD.x.next hR).cell (j:=0) (by omega)
   ·exact ow 3
   ·exact oc 4 147 fun _ hR=>(hO.next hR).cell (j:=1) (by omega)
   ·exact ow 0
   ·exact o1 6 149
   ·exact o1 7 150
   ·exact oc 8 151 fun _ hR=>(hD.x.next hR).cell (j:=0) (by omega)
   ·exact ow 3
   ·exact oc 10 153 fun _ hR=>(hO.next hR).cell (j:=1) (by omega)
   ·exact oq rfl fun ev w9 v hR E pr=>by
     have e1:=E.eq pr 9 152;have e2:=E.eq pr 11 154;simp[go_sem,ht0,htl,e1,e2]
   ·exact oq rfl fun ev w9 v hR E pr=>by
     have e1:=E.eq pr 12 155;exact iC rfl e1 (GOwn.next hD.n hR) hy
   ·refine OpOk.call rfl fun ev w9 v hR E pr=>?_
    have e1:=E.eq pr 13 156;refine⟨19,#[aX y.n y.s],by simp[go_sem,e1,E.fn],?_⟩;refine (qU y.n y.s hyz w9 (hyO.next hR).M).mono ?_;rintro e w8 ⟨s',rfl,hOs,hb⟩;exact⟨_,rfl,hb,s',rfl,hOs.from hR.size⟩
   ·exact oq rfl fun ev w9 v hR E pr=>by
     have e1:=E.eq pr 3 146;have e2:=E.eq pr 5 148;simp[go_sem,ht0,htl,e1,e2]
  ·intro ev w9 v hR E hp9
   obtain⟨_,_,_,_,_,_,_,_,_,_,_,_,_,_,p14,p15,_⟩:=hp9;have E1:=E.at_ 15 158 rfl (by kernel_rfl) (nb (by kernel_rfl));have E2:=E.at_ 14 157 rfl (by kernel_rfl) (nb (by kernel_rfl));rw[p15]at E1;obtain⟨s5,e5,hO5⟩:CpV (w'.alloc (.cells #[] 29)).drew.heap.size (wW y.n) (v 14) w9:=p14;rw[e5]at E2;have h9:=hD.next hR;have g9:=bP g (aJ (wW y.n) s5) (t*10) w9;have hgn:∀ x,some g=some x->aG w9 x 27:=fun x e=>GOwn.typed h9.n (x:=x) (by cases e;rfl)
   exact⟨_,lV (aJ (wW y.n) s5) rfl E1 E2 ((GOwn.vhas h9.n (by omega)).elim fun g' ⟨e',_,hv⟩=>by cases e';exact hv) (by show t*10+10<=l.length*10;omega) (by kernel_rfl) (cD (by kernel_rfl)),⟨s5,h9.put htL ⟨(wW y.n),s5⟩ (hO5.from hWs)⟩,trivial,kI (aN hbl hbs hR) hbs g9 (fun x e=>(GOwn.at h9.n (x:=x) (by cases e;rfl)).1)⟩
  ·intro v9 W9 hF9
   simp only[List.size_toArray,List.length_cons,List.length_nil,Nat.reduceAdd,Nat.reduceSub,List.take_succ_cons,List.take_zero,bF,Nat.zero_add,Act.put,sY,sZ,ss];obtain⟨⟨s5,hC9⟩,_,hbl9⟩:=hF9;have hPn:=hP.put (z':=⟨wW y.n,s5⟩) hy (by show OkN (wW y.n);rw[hyk.ne.2.2];exact hyk.rs) (by show (wW y.n).id = _;rw[hyk.ne.2.2];rfl) (by show (wW y.n).peers = _;rw[hyk.ne.2.2];rfl) (by show TxL (wW y.n).log;rw[hyk.ne.2.2];exact hyt)
   go_wp2_with fail
   refine (nC b base _ _ cap _ _ _ ⟨_,_,_,hC9,hPn⟩).mono ?_;rintro e w9 ⟨rfl,e9⟩;subst e9;go_wp2;simp[bodyPost,results,Tryz.results64,go_sem];exact⟨⟨_,rfl⟩,⟨_,⟨_,_,_,hC9,hPn⟩,by rw[List.length_set]⟩,hbl9⟩
theorem F0(b base:Nat)(l:List Nq)(q:List Mq)(ao:Option Addr)(cap:Nat)(eo:Option Addr)(ec:Nat)(K N I:Int)(T:ByteArray)(hK:dD K 1 7=false)(w:World)(hbs:base<=w.heap.size)(hC:ClB w b base l q ao cap eo ec)(hP:ClP l q):Calls Tryz.prog 64 #[.pointer (some ⟨b,0,none⟩),.agg #[.int .i64 K,.int .i64 N,.int .i64 I,.string T]] w fun e w'=>CI b base l.length ao cap w w' e:=by
 have hal:=ra w (.cells #[.int .i64 K,.int .i64 N,.int .i64 I,.string T] 89);have vO:VHas (w.alloc (.cells #[.int .i64 K,.int .i64 N,.int .i64 I,.string T] 89)) w.heap.size 89 4 (lf [.int .i64 K,.int .i64 N,.int .i64 I,.string T]):=bH w [.int .i64 K,.int .i64 N,.int .i64 I,.string T] 89;have hbl:=aN (Below.refl base w) hbs hal;replace hC:=hC.next hal;clear hal;go_enter Tryz.func64,Tryz.ntmps64;have o0:=VHas.cell vO (j:=0) (by omega);simp[lf]at o0
 go_wp2_with fail
 clear o0;generalize (w.alloc (.cells #[.int .i64 K,.int .i64 N,.int .i64 I,.string T] 89))=W at vO hbl hC ⊢;refine (bS K 1 7 _).mono ?_;rintro e w1 ⟨rfl,hb1⟩;rw[hK];replace hC:=hC.next hb1;replace hbl:=aN hbl hbs hb1;clear hb1 vO;go_wp2;simp[bodyPost,results,Tryz.results64,go_sem];exact⟨⟨_,rfl⟩,⟨l,⟨_,_,_,hC,hP⟩,rfl⟩,hbl⟩
theorem P3(b base:Nat)(l:List Nq)(q:List Mq)(ao:Option Addr)(cap:Nat)(eo:Option Addr)(ec:Nat)(K N I:Int)(T:ByteArray)(hT:T.size<=1048576)(w:World)(hbs:base<=w.heap.size)(hbb:base<=b)(hC:ClB w b base l q ao cap eo ec)(hP:ClP l q):Calls Tryz.prog 64 #[.pointer (some ⟨b,0,none⟩),.agg #[.int .i64 K,.int .i64 N,.int .i64 I,.string T]] w fun e w'=>CI b base l.length ao cap w w' e:=by
 rcases bq (dD K 1 7) with hK|hK
 rotate_left
 ·exact F0 b base l q ao cap eo ec K N I T hK w hbs hC hP
 have h:=hK;rw[oY]at h;have h:=of_decide_eq_true h;have h7:K=1\/K=2\/K=3\/K=4\/K=5\/K=6\/K=7:=by omega
 clear h hK;rcases h7 with rfl|rfl|rfl|rfl|rfl|rfl|rfl
 ·exact H9 b base l q ao cap eo ec N I T hT w hbs hbb hC hP
 ·exact G6 b base l q ao cap eo ec N I T hT w hbs hbb hC hP
 ·exact D2 b base l q ao cap eo ec N I T hT w hbs hbb hC hP
 ·exact F3 b base l q ao cap eo ec N I T hT w hbs hbb hC hP
 ·exact F6 b base l q ao cap eo ec N I T hT w hbs hbb hC hP
 ·exact D5 b base l q ao cap eo ec N I T hT w hbs hbb hC hP
 ·exact J5 b base l q ao cap eo ec N I T hT w hbs hbb hC hP
def nK(p:Int):Nat:=if 1<=p/\p<=5 then p.toNat else 0
def nB(p:Int):Bool:=decide (1<=p/\p<=5)
def L0(w w':World)(e:Ending)(p:Int):Prop:=∃ ao cap,e=.returned (.tuple #[.agg #[.slice ao (nK p) cap,.slice none 0 0],.bool (nB p)])/\GOwn w' w.heap.size 27 10 ao (nK p) cap (lf (mX (qE p (nK p))))/\RB w w'
theorem F4{w w':World}{p:Int}(h:¬ (1<=p/\p<=5))(hb:RB w w'):L0 w w' (.returned (.tuple #[.agg #[.slice none 0 0,.slice none 0 0],.bool false])) p:=by
 have e1:nK p=0:=by simp[nK,h]
 have e2:nB p=false:=by simp[nB,h]
 unfold L0;rw[e1,e2];exact⟨none,0,rfl,GOwn.nil _ _ _ _ _,hb⟩
end
section
open Go.RowKit
attribute [local go_sem ↓] Go.wp_at_zero Go.wp_at_succ
def FR(c0 c1 c2 c3 c4 c5 c6 c7 c8 c9:Value)(j:Nat):Value:=if j=0 then c0 else if j=1 then c1 else if j=2 then c2 else if j=3 then c3 else if j=4 then c4 else if j=5 then c5 else if j=6 then c6 else if j=7 then c7 else if j=8 then c8 else c9
theorem Z7(w:World)(c0 c1 c2 c3 c4 c5 c6 c7 c8 c9:Value)(ty:TypeId):VHas (w.alloc (.cells #[c0,c1,c2,c3,c4,c5,c6,c7,c8,c9] ty)) w.heap.size ty 10 (FR c0 c1 c2 c3 c4 c5 c6 c7 c8 c9):=
 ⟨_,Go.Deep.blk_alloc_new _ _,by simp,fun j hj=>by
  have:j=0\/j=1\/j=2\/j=3\/j=4\/j=5\/j=6\/j=7\/j=8\/j=9:=by omega
  rcases this with rfl|rfl|rfl|rfl|rfl|rfl|rfl|rfl|rfl|rfl<;>rfl⟩
def uI(i p:Int):Bool:=decide (1<=p/\p<=5/\0<=i/\i<p)
end
end Go.Proofs.YtbabakgjkloabaaGreatDoor
