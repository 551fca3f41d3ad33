/-
  Helpers: Drc, LikL, Ans, FnBig, FnBase, LikN.
-/
import Derived.Test.YtbabakgjkloabaaGreatDoorPack28
set_option linter.unusedVariables false
set_option linter.unusedSimpArgs false
set_option maxRecDepth 100000
set_option maxHeartbeats 16000000
namespace Go.Proofs.YtbabakgjkloabaaGreatDoor
section
open Go Go.RowKit
attribute [local go_sem ↓] Go.wp_at_zero Go.wp_at_succ
def GH(w:World)(e:Ending)(w':World):Prop:=∃ n s m eo ec,e=.returned (.tuple #[aX n s,eS m eo ec])/\NdM w' n s/\NdZ n s/\GdW n/\MsM w' m eo ec/\MsZ m/\sE m.index/\RB w w'
structure DRs(w:World)(c:Nat)(ao:Option Addr)(k cap:Nat)(W:World):Prop where
 cur:CurAt W w.heap.size c ao k cap
 n:NdB W w.heap.size aU aP
 m:MsB W (w.heap.size+1) gW none 0
 b:RB w W
 lt:w.heap.size+1<c
section
variable {w:World} {c:Nat} {ao:Option Addr} {k cap:Nat} {W W':World}
theorem DRs.next(h:DRs w c ao k cap W)(hb:RB W W'):DRs w c ao k cap W':=⟨h.cur.next hb,vn h.n hb,vn h.m hb,rt _ _ _ h.b hb,h.lt⟩
theorem DRs.rd(h:DRs w c ao k cap W)(hC:CurAt W' w.heap.size c ao k cap)(hg:W.grownBy W' (some c)):DRs w c ao k cap W':=
 have hl:=h.lt
 ⟨hC,VHas.grown h.n hg (fun e=>by have:=oI e;omega),VHas.grown h.m hg (fun e=>by have:=oI e;omega),C7 h.b (by omega) hg,h.lt⟩
theorem DRs.put(h:DRs w c ao k cap W){x:Nat}(hg:W.grownBy W' (some x))(hx:c<x):DRs w c ao k cap W':=
 have hl:=h.lt
 ⟨h.cur.grown hg (by omega) (by omega),VHas.grown h.n hg (fun e=>by have:=oI e;omega),VHas.grown h.m hg (fun e=>by have:=oI e;omega),C7 h.b (by omega) hg,h.lt⟩
end
structure DRb(w:World)(c:Nat)(ao:Option Addr)(k cap:Nat)(bk B g ge:Nat)(l:List Nq)(cl:Nat)(q:List Mq)(ec:Nat)(W:World):Prop where
 d:DRs w c ao k cap W
 x:VHas W bk 54 2 (lf [.slice (some ⟨g,0,none⟩) l.length cl,.slice (some ⟨ge,0,none⟩) q.length ec])
 n:GOwn W B 27 10 (some ⟨g,0,none⟩) l.length cl (lf (mX l))
 q:NetO W B (some ⟨ge,0,none⟩) ec q
 nl:∀ z∈l,NdO W B z.n z.s
section
variable {w:World} {c:Nat} {ao:Option Addr} {k cap bk B g ge:Nat} {l:List Nq} {cl:Nat} {q:List Mq} {ec:Nat} {W W':World}
theorem DRb.next(h:DRb w c ao k cap bk B g ge l cl q ec W)(hb:RB W W'):DRb w c ao k cap bk B g ge l cl q ec W':=⟨h.d.next hb,vn h.x hb,GOwn.next h.n hb,h.q.next hb,fun z hz=>(h.nl z hz).next hb⟩
theorem DRb.rd(h:DRb w c ao k cap bk B g ge l cl q ec W)(hC:CurAt W' w.heap.size c ao k cap)(hg:W.grownBy W' (some c)):DRb w c ao k cap bk B g ge l cl q ec W':=
 have hT:∀ x,some c=some x->aG W x 83:=fun x e=>by cases e;exact h.d.cur.typed
 ⟨h.d.rd hC hg,VHas.gr h.x hg hT (by decide),GOwn.gr h.n hg hT (by decide),h.q.gr hg hT (by decide) (by decide),fun z hz=>(h.nl z hz).gr hg hT (by decide) (by decide)⟩
theorem DRb.ms(h:DRb w c ao k cap bk B g ge l cl q ec W){x:Nat}(hg:W.grownBy W' (some x))(hx:c<x)(hn:ge≠x)(hT:aG W x 29):DRb w c ao k cap bk B g ge l cl q ec W':=
 have hT':∀ y,some x=some y->aG W y 29:=fun y e=>by cases e;exact hT
 ⟨h.d.put hg hx,VHas.gr h.x hg hT' (by decide),GOwn.gr h.n hg hT' (by decide),⟨GOwn.grown h.q.o hg (fun y e r=>hn ((oI e).trans (oI r).symm)),fun z hz=>(h.q.e z hz).gr hg hT' (by decide)⟩,fun z hz=>(h.nl z hz).gr hg hT' (by decide) (by decide)⟩
end
def MzV(q:List Mq)(v:Value)(w:World):Prop:=∃ z∈q,v=eS z.m z.eo z.ec
theorem MzV.rb{q:List Mq}(v:Value)(w w':World)(h:MzV q v w)(hb:RB w w'):MzV q v w':=h
def BmZ(H:Nat)(q:List Mq)(v:Value)(w:World):Prop:=∃ b,v=.pointer (some ⟨b,0,none⟩)/\H<=b/\∃ z∈q,MsB w b z.m z.eo z.ec
theorem BmZ.rb{H:Nat}{q:List Mq}(v:Value)(w w':World)(h:BmZ H q v w)(hb:RB w w'):BmZ H q v w':=by
 obtain⟨b,e,h1,z,hz,h⟩:=h;exact⟨b,e,h1,z,hz,vn h hb⟩
def NdH(b:Nat)(n:Nd)(s:NdS)(v:Value)(w:World):Prop:=NdB w b n s
theorem NdH.rb{b:Nat}{n:Nd}{s:NdS}(v:Value)(w w':World)(h:NdH b n s v w)(hb:RB w w'):NdH b n s v w':=vn h hb
def MsH(b:Nat)(m:Ms)(eo:Option Addr)(ec:Nat)(v:Value)(w:World):Prop:=MsB w b m eo ec
theorem MsH.rb{b:Nat}{m:Ms}{eo:Option Addr}{ec:Nat}(v:Value)(w w':World)(h:MsH b m eo ec v w)(hb:RB w w'):MsH b m eo ec v w':=vn h hb
def DmV(H:Nat)(v:Value)(w:World):Prop:=∃ m eo ec,v=eS m eo ec/\OwE w H eo ec m.ents/\MsZ m/\sE m.index
theorem DmV.rb{H:Nat}(v:Value)(w w':World)(h:DmV H v w)(hb:RB w w'):DmV H v w':=by
 obtain⟨m,eo,ec,e,h1,h2⟩:=h;exact⟨m,eo,ec,e,h1.next hb,h2⟩
theorem DmV.gr{H x:Nat}{t:TypeId}{v:Value}{w w':World}(h:DmV H v w)(hg:w.grownBy w' (some x))(hT:aG w x t)(hn:47≠t):DmV H v w':=by
 obtain⟨m,eo,ec,e,h1,h2⟩:=h;exact⟨m,eo,ec,e,h1.gr hg (fun y e=>by cases e;exact hT) hn,h2⟩
def DmB(H b:Nat)(v:Value)(w:World):Prop:=∃ m eo ec,MsB w b m eo ec/\OwE w H eo ec m.ents/\MsZ m/\sE m.index
theorem DmB.rb{H b:Nat}(v:Value)(w w':World)(h:DmB H b v w)(hb:RB w w'):DmB H b v w':=by
 obtain⟨m,eo,ec,h0,h1,h2⟩:=h;exact⟨m,eo,ec,vn h0 hb,h1.next hb,h2⟩
theorem qW(ao:Option Addr)(k cap:Nat)(hk:k<=4096)(w:World)(hr:ByRow w w.heap.size ao k):Calls Tryz.prog 6 #[.slice ao k cap] w fun e w'=>GH w e w':=by
 have hal:=rt _ _ _ (ra w (.cells (aJ aU aP).toArray 27)) (ra _ (.cells (bZ gW none 0).toArray 29));have vR:NdB _ w.heap.size aU aP:=(aH w aU aP).next (ra _ (.cells (bZ gW none 0).toArray 29));have vM:=bJ (w.alloc (.cells (aJ aU aP).toArray 27)) gW none 0;rw[World.size_alloc]at vM;have hsW:((w.alloc (.cells (aJ aU aP).toArray 27)).alloc (.cells (bZ gW none 0).toArray 29)).heap.size=w.heap.size+2:=by rw[World.size_alloc,World.size_alloc]
 have hr1:ByRow ((w.alloc (.cells (aJ aU aP).toArray 27)).alloc (.cells (bZ gW none 0).toArray 29)) ((w.alloc (.cells (aJ aU aP).toArray 27)).alloc (.cells (bZ gW none 0).toArray 29)).heap.size ao k:=by
  rw[hsW];intro j hj;obtain⟨b,o,v,e,hb,hc,hv⟩:=hr j hj;exact⟨b,o,v,e,by omega,aB hal nl hc,hv⟩
 go_enter Tryz.func6,Tryz.ntmps6;refine aW fun K0 hK0=>?_
 go_wp2;refine hK0.out _ _ ?_;clear hK0;generalize ((w.alloc _).alloc _)=W at hal vR vM hsW hr1 ⊢
 go_wp2_with fail
 refine (N9 ao k cap hk _ hr1).mono ?_;rintro e w1 ⟨c,rfl,hC,hb1⟩;have hcg:=hC.ge;have hb:=rt _ _ _ hal hb1;have h1:DRs w c ao k cap w1:=⟨⟨by omega,hC.len,hr.below hb nl,hC.cur⟩,vn vR hb1,vn vM hb1,hb,by omega⟩
 clear hC hcg hb hb1 vR vM hr1 hr hal hsW
 go_wp2_with fail
 refine (dA w.heap.size c ao k cap 3 (by omega) (by omega) _ h1.cur).mono ?_;rintro e w2 ⟨b,rfl,hc9,hg9⟩;have h2:=h1.rd hc9 hg9;clear hc9 hg9 h1
 go_upto_if 11 with fail
 go_cut [] from 8 to 11 (fun wc=>DRs w c ao k cap wc)
 case first=>
  cases b
  ·go_wp2
   go_meet
   case rel=>exact h2
  go_wp2_with fail
  refine (qN w.heap.size c ao k cap _ h2.cur).mono ?_;rintro e w3 ⟨l,q,lo,cl,eo,ec,rfl,hV,hP,hc9,hg9⟩;have h3:=h2.rd hc9 hg9;have hcw2:=h2.cur.lt;clear hc9 hg9 h2;have hal:=ra w3 (.cells #[.slice none 0 0,.slice none 0 0] 54);have vK:VHas (w3.alloc (.cells #[.slice none 0 0,.slice none 0 0] 54)) w3.heap.size 54 2 (lf [.slice none 0 0,.slice none 0 0]):=bH w3 [.slice none 0 0,.slice none 0 0] 54;have hcw3:=h3.cur.lt;replace h3:=h3.next hal;have hVn:=GOwn.next hV.n hal;have hVq:=hV.m.next hal;have hVl:=fun z hz=>(hV.nl z hz).next hal
  have hl5:=hP.len;have hq2:=hP.net;clear hal hV
  go_upto_region 4 with (first|((with_reducible refine wB 54 (.tmp 5) (.tmp 13) w3.heap.size [.slice lo l.length cl,.slice eo q.length ec] vK ?_);intro W4 v4 g4)|fail)
  have hTk:∀ x,some w3.heap.size=some x->aG (w3.alloc (.cells #[.slice none 0 0,.slice none 0 0] 54)) x 54:=fun x e=>by cases e;exact vK.typed
  replace hVn:=GOwn.gr hVn g4 hTk (by decide);replace hVq:=hVq.gr g4 hTk (by decide) (by decide);have hVl2:=fun z hz=>(hVl z hz).gr g4 hTk (by decide) (by decide)
  have h4:=h3.put g4 hcw3;clear hTk vK hVl g4 h3 hcw3;have k0:=VHas.cell v4 (j:=0) (by simp);have k1:=VHas.cell v4 (j:=1) (by simp);simp[lf]at k0 k1;generalize w3.heap.size=bk at v4 k0 k1 ⊢;generalize w2.heap.size=B at hVn hVq hVl2 hcw2 ⊢
  by_cases hq0:0<q.length
  rotate_left
  ·have hq0':¬ (0:Int)<(q.length:Int):=by omega
   go_wp2
   go_meet
   case rel=>exact h4
  have hq0':(0:Int)<(q.length:Int):=by omega
  obtain⟨g,eg,hgb,_⟩:=GOwn.vhas hVn (by omega);subst eg;obtain⟨ge,ege,hgeb,_⟩:=GOwn.vhas hVq.o (by omega);subst ege;have hB4:DRb w c ao k cap bk B g ge l cl q ec W4:=⟨h4,v4,hVn,hVq,hVl2⟩
  clear h4 hVn hVq hVl2
  go_upto_region 5 with fail
  clear k0 k1;have hD:=hB4.next (show RB W4 W4.drew from (Below.refl _ _).drew);have hgk:g<W4.drew.heap.size:=(GOwn.at hD.n (x:=g) rfl).2;have hgek:ge<W4.drew.heap.size:=(GOwn.at hD.q.o (x:=ge) rfl).2;have hck:c<W4.drew.heap.size:=hD.d.cur.lt;clear hB4 v4
  refine eG (by kernel_rfl) (by kernel_rfl) (by kernel_rfl) (fun W5=>DRb w c ao k cap bk B g ge l cl q ec W5/\W4.drew.heap.size<=W5.heap.size) ⟨hD,Nat.le_refl _⟩ (fun i=>if i=6 then RD w.heap.size c ao k cap else if i=10 then fun u v=>∃ b,u.grownBy v (some b)/\aG u b 29/\W4.drew.heap.size<=b else RB) [6,10]
   [isV (.pointer (some ⟨bk,1,none⟩)),isV (.slice (some ⟨ge,0,none⟩) q.length ec),isV (.pointer (some ⟨c,0,none⟩)),isV (.pointer (some ⟨bk,1,none⟩)),isV (.slice (some ⟨ge,0,none⟩) q.length ec),isV (.int .i64 (q.length:Int)),IxV q.length,PtV ge 9 q.length,MzV q,BxQ W4.drew.heap.size,BmZ W4.drew.heap.size q]
   [(9,10)] [(10,9)] [] (by kernel_rfl) (by kernel_rfl) ⟨iR,iR,iR,iR,iR,iR,IxV.rb,PtV.rb,MzV.rb,BxQ.rb,BmZ.rb,trivial⟩ (fun i h=>by simp at h;simp[h]) ?_ ?_ ?_
  ·intro i hi j hj hne hx hd v w1 w2 hp hG hR
   simp only[List.mem_cons,List.not_mem_nil,or_false]at hi;rcases hi with rfl|rfl
   ·have hj2:j<11:=hj
    have hj3:j=0\/j=1\/j=2\/j=3\/j=4\/j=5\/j=6\/j=7\/j=8\/j=9\/j=10:=by omega
    rcases hj3 with rfl|rfl|rfl|rfl|rfl|rfl|rfl|rfl|rfl|rfl|rfl
    ·exact hp
    ·exact hp
    ·exact hp
    ·exact hp
    ·exact hp
    ·exact hp
    ·exact absurd rfl hne
    ·exact hp
    ·exact hp
    ·obtain⟨b4,e,h1,h2⟩:=hp
     exact⟨b4,e,h1,VHas.gr h2 hR.1 (fun x e=>by cases e;exact hG.1.d.cur.typed) (by decide)⟩
    ·obtain⟨b4,e,h1,z,hz,h2⟩:=hp
     exact⟨b4,e,h1,z,hz,VHas.gr h2 hR.1 (fun x e=>by cases e;exact hG.1.d.cur.typed) (by decide)⟩
   ·have hj2:j<11:=hj
    have hj3:j=0\/j=1\/j=2\/j=3\/j=4\/j=5\/j=6\/j=7\/j=8\/j=9\/j=10:=by omega
    rcases hj3 with rfl|rfl|rfl|rfl|rfl|rfl|rfl|rfl|rfl|rfl|rfl
    ·exact hp
    ·exact hp
    ·exact hp
    ·exact hp
    ·exact hp
    ·exact hp
    ·exact hp
    ·exact hp
    ·exact hp
    ·exact absurd rfl hx
    ·exact absurd rfl hne
  ·refine aA ?_ (aA ?_ (aA ?_ (aA ?_ (aA ?_ (aA ?_ (aA ?_ (aA ?_ (aA ?_ (aA ?_ (aA ?_ (eF)))))))))))
   ·exact xq rfl rfl fun ev w9 v hG E pr=>by
     have e1:=E.was 5 _;simp[go_sem,e1]
   ·exact xq rfl rfl fun ev w9 v hG E pr=>by
     have e1:ev (.tmp 18)=.pointer (some ⟨bk,1,none⟩):=E.tld pr 0 18;have cc:=VHas.cell hG.1.x (j:=1) (by omega);simp[lf]at cc;simp[go_sem,cc,e1]
   ·exact xq rfl rfl fun ev w9 v hG E pr=>by
     have e1:=E.was 4 _;simp[go_sem,e1]
   ·exact xq rfl rfl fun ev w9 v hG E pr=>by
     have e1:=E.was 5 _;simp[go_sem,e1]
   ·exact xq rfl rfl fun ev w9 v hG E pr=>by
     have e1:ev (.tmp 21)=.pointer (some ⟨bk,1,none⟩):=E.tld pr 3 21;have cc:=VHas.cell hG.1.x (j:=1) (by omega);simp[lf]at cc;simp[go_sem,cc,e1]
   ·exact xq rfl rfl fun ev w9 v hG E pr=>by
     have e1:ev (.tmp 22)=.slice (some ⟨ge,0,none⟩) q.length ec:=E.tld pr 4 22;simp[go_sem,e1]
   ·exact ExOk.call rfl fun ev w9 v hG E pr=>by
     have e1:ev (.tmp 20)=.pointer (some ⟨c,0,none⟩):=E.tld pr 2 20;have e2:ev (.tmp 23)=.int .i64 (q.length:Int):=E.tld pr 5 23;refine⟨27,#[.pointer (some ⟨c,0,none⟩),.int .i64 (q.length:Int)],by simp[go_sem,e1,e2,E.fn],?_⟩;refine (aI w.heap.size c ao k cap (q.length:Int) (by omega) (by omega) w9 hG.1.d.cur).mono ?_;rintro e w8 ⟨x,rfl,hx,hC8,hg8⟩;exact⟨_,rfl,⟨hg8,fun _=>hC8⟩,⟨hG.1.rd hC8 hg8,Nat.le_trans hG.2 hg8.size⟩,x,rfl,by omega⟩
   ·exact ExOk.val rfl fun ev w9 v hG E pr=>by
     have e1:ev (.tmp 19)=.slice (some ⟨ge,0,none⟩) q.length ec:=E.tld pr 1 19;obtain⟨x,e2,hx⟩:IxV q.length (ev (.tmp 24)) w9:=E.tld pr 6 24;have hx0:(0:Int)<=(x:Int):=by omega
     have hx1:(x:Int)<(q.length:Int):=by omega
     exact⟨.pointer (some ⟨ge,x*9,none⟩),w9,by simp[go_sem,e1,e2,hx0,hx1],rr _,hG,x,rfl,hx⟩
   ·exact ExOk.val rfl fun ev w9 v hG E pr=>by
     obtain⟨x,e1,hx⟩:PtV ge 9 q.length (ev (.tmp 25)) w9:=E.tld pr 7 25;obtain⟨z,hz⟩:∃ z,q[x]?=some z:=⟨q[x],by simp[hx]⟩
     exact⟨eS z.m z.eo z.ec,w9,qG rfl e1 hG.1.q.o hz,rr _,hG,z,List.mem_of_getElem? hz,rfl⟩
   ·exact ExOk.val rfl fun ev w9 v hG E pr=>⟨.pointer (some ⟨w9.heap.size,0,none⟩),w9.alloc (.cells (bZ gW none 0).toArray 29),(by (simp[go_sem])<;>rfl),ra _ _,⟨hG.1.next (ra _ _),by rw[World.size_alloc];exact Nat.le_succ_of_le hG.2⟩,w9.heap.size,rfl,hG.2,bJ w9 gW none 0⟩
   ·exact ExOk.skip rfl (by decide) fun ev w9 v hG E pr=>by
     obtain⟨b5,e1,hb5,vB⟩:BxQ W4.drew.heap.size (ev (.tmp 6)) w9:=E.tld pr 9 6;obtain⟨z,hz,e2⟩:MzV q (ev (.tmp 26)) w9:=E.tld pr 8 26;have hg:w9.grownBy (setL w9 b5 0 (bZ z.m z.eo z.ec)) (some b5):=bP _ _ 0 _;have e3:v 9=ev (.tmp 6):=(E.at_ 9 6 rfl (by kernel_rfl) (nb (by kernel_rfl))).symm
     have h15:BmZ W4.drew.heap.size q (v 9) (setL w9 b5 0 (bZ z.m z.eo z.ec)):=by
      rw[e3];exact⟨b5,e1,hb5,z,hz,bE _ vB⟩
     exact⟨_,bU (bZ z.m z.eo z.ec) rfl e1 e2 vB (by kernel_rfl) (cD (by kernel_rfl)),⟨b5,hg,VHas.typed vB,hb5⟩,⟨hG.1.ms hg (by omega) (by omega) (VHas.typed vB),Nat.le_trans hG.2 hg.size⟩,h15⟩
  ·intro v8 W8 hG8 hp8
   have p10:(BmZ W4.drew.heap.size q) (v8 9) W8:=hp8 10 (by decide) (by kernel_rfl);clear hp8;obtain⟨b6,e9,hb6,z,hz,v6⟩:BmZ W4.drew.heap.size q (v8 9) W8:=p10;simp only[bF,Nat.zero_add,Nat.reduceAdd,Act.put,sY,sZ,ss,e9];have hzw:=hP.ms z hz;obtain⟨t,hto⟩:∃ t:Nat,z.m.to=(t:Int):=⟨z.m.to.toNat,by have:=hzw.to.1;omega⟩
   have htl:t<l.length:=by have:=hzw.to.2;omega
   have ht0:(0:Int)<=(t:Int):=by omega
   have ht1:(t:Int)<(l.length:Int):=by omega
   obtain⟨y,hy⟩:=lW htl;obtain⟨hyk,_,_,hyt⟩:=hP.ok t y hy;have hyO:=hG8.1.nl y (List.mem_of_getElem? hy);have hzE:=hG8.1.q.e z hz;have hgn:g≠w.heap.size:=by have:=(GOwn.at hG8.1.n (x:=g) rfl).1;have:=hG8.1.d.lt;omega
   have hltc:=hG8.1.d.lt;have h8:=hG8.1;clear hG8 hD
   go_upto_region 6 with fail
   have hd:RB W8 W8.drew:=(Below.refl _ _).drew;have hG6:RB w W8.drew/\VHas W8.drew bk 54 2 (lf [.slice (some ⟨g,0,none⟩) l.length cl,.slice (some ⟨ge,0,none⟩) q.length ec])/\GOwn W8.drew B 27 10 (some ⟨g,0,none⟩) l.length cl (lf (mX l))/\MsB W8.drew b6 z.m z.eo z.ec/\(∃ f,VHas W8.drew w.heap.size 27 10 f)/\(∃ f,VHas W8.drew (w.heap.size+1) 29 9 f)/\NdO W8.drew B y.n y.s/\OwE W8.drew B z.eo z.ec z.m.ents:=⟨rt _ _ _ h8.d.b hd,vn h8.x hd,GOwn.next h8.n hd,vn v6 hd,⟨_,vn h8.d.n hd⟩,⟨_,vn h8.d.m hd⟩,hyO.next hd,hzE.next hd⟩
   have hyZ:NdZ y.n y.s:=hyk.zz hyt hyO.K;have hb6n:w.heap.size+1<b6:=by have:=hltc;omega
   clear h8 v6 hyO hzE hd
   refine eG (by kernel_rfl) (by kernel_rfl) (by kernel_rfl) (fun W5=>RB w W5/\VHas W5 bk 54 2 (lf [.slice (some ⟨g,0,none⟩) l.length cl,.slice (some ⟨ge,0,none⟩) q.length ec])/\GOwn W5 B 27 10 (some ⟨g,0,none⟩) l.length cl (lf (mX l))/\MsB W5 b6 z.m z.eo z.ec/\(∃ f,VHas W5 w.heap.size 27 10 f)/\(∃ f,VHas W5 (w.heap.size+1) 29 9 f)/\NdO W5 B y.n y.s/\OwE W5 B z.eo z.ec z.m.ents) hG6 (fun i=>if i=7 then fun u v=>u.grownBy v (some w.heap.size)/\aG u w.heap.size 27 else if i=8 then fun u v=>u.grownBy v (some (w.heap.size+1))/\aG u (w.heap.size+1) 29 else RB) [7,8]
    [isV (.pointer (some ⟨bk,0,none⟩)),isV (.slice (some ⟨g,0,none⟩) l.length cl),isV (.pointer (some ⟨b6,3,none⟩)),isV (.int .i64 z.m.to),isV (.pointer (some ⟨g,t*10,none⟩)),isV (aX y.n y.s),isV (eS z.m z.eo z.ec),NdH w.heap.size y.n y.s,MsH (w.heap.size+1) z.m z.eo z.ec]
    [] [(7,5),(8,6)] [(8,7)] (by kernel_rfl) (by kernel_rfl) ⟨iR,iR,iR,iR,iR,iR,iR,NdH.rb,MsH.rb,trivial⟩ (fun i h=>by simp at h;simp[h]) ?_ ?_ ?_
   ·intro i hi j hj hne hx hd v w1 w2 hp hG hR
    simp only[List.mem_cons,List.not_mem_nil,or_false]at hi;rcases hi with rfl|rfl
    ·have hj2:j<9:=hj
     have hj3:j=0\/j=1\/j=2\/j=3\/j=4\/j=5\/j=6\/j=7\/j=8:=by omega
     rcases hj3 with rfl|rfl|rfl|rfl|rfl|rfl|rfl|rfl|rfl
     ·exact hp
     ·exact hp
     ·exact hp
     ·exact hp
     ·exact hp
     ·exact hp
     ·exact hp
     ·exact absurd rfl hne
     ·exact absurd (by simp) hd
    ·have hj2:j<9:=hj
     have hj3:j=0\/j=1\/j=2\/j=3\/j=4\/j=5\/j=6\/j=7\/j=8:=by omega
     rcases hj3 with rfl|rfl|rfl|rfl|rfl|rfl|rfl|rfl|rfl
     ·exact hp
     ·exact hp
     ·exact hp
     ·exact hp
     ·exact hp
     ·exact hp
     ·exact hp
     ·exact VHas.gr hp hR.1 (fun x e=>by cases e;exact hR.2) (by decide)
     ·exact absurd rfl hne
   ·refine aA ?_ (aA ?_ (aA ?_ (aA ?_ (aA ?_ (aA ?_ (aA ?_ (aA ?_ (aA ?_ (eF)))))))))
    ·exact xq rfl rfl fun ev w9 v hG E pr=>by
      have e1:=E.was 5 _;simp[go_sem,e1]
    ·exact xq rfl rfl fun ev w9 v hG E pr=>by
      have e1:ev (.tmp 27)=.pointer (some ⟨bk,0,none⟩):=E.tld pr 0 27;have cc:=VHas.cell hG.2.1 (j:=0) (by omega);simp[lf]at cc;simp[go_sem,cc,e1]
    ·exact xq rfl rfl fun ev w9 v hG E pr=>by
      have e1:=E.was 6 _;simp[go_sem,e1]
    ·exact xq rfl rfl fun ev w9 v hG E pr=>by
      have e1:ev (.tmp 29)=.pointer (some ⟨b6,3,none⟩):=E.tld pr 2 29;have cc:=VHas.cell hG.2.2.2.1 (j:=3) (by omega);simp[lf]at cc;simp[go_sem,cc,e1]
    ·exact xq rfl rfl fun ev w9 v hG E pr=>by
      have e1:ev (.tmp 28)=.slice (some ⟨g,0,none⟩) l.length cl:=E.tld pr 1 28;have e2:ev (.tmp 30)=.int .i64 z.m.to:=E.tld pr 3 30;rw[hto]at e2;simp[go_sem,e1,e2,ht0,ht1]
    ·exact xq rfl rfl fun ev w9 v hG E pr=>by
      have e1:ev (.tmp 31)=.pointer (some ⟨g,t*10,none⟩):=E.tld pr 4 31;exact iC rfl e1 hG.2.2.1 hy
    ·exact xq rfl rfl fun ev w9 v hG E pr=>by
      have e1:=E.was 6 _;exact gJ rfl e1 hG.2.2.2.1
    ·exact ExOk.skip rfl (by decide) fun ev w9 v hG E pr=>by
      have e1:=E.was 2 _;have e2:ev (.tmp 32)=aX y.n y.s:=E.tld pr 5 32;obtain⟨f9,v9⟩:=hG.2.2.2.2.1;have hT:=VHas.typed v9;have hg:w9.grownBy (setL w9 w.heap.size 0 (aJ y.n y.s)) (some w.heap.size):=bP _ _ 0 _;exact⟨_,bU (aJ y.n y.s) rfl e1 e2 v9 (by kernel_rfl) (cD (by kernel_rfl)),⟨hg,hT⟩,⟨aV hG.1 hg nl,VHas.gr hG.2.1 hg (fun x e=>by cases e;exact hT) (by decide),GOwn.grown hG.2.2.1 hg (fun y e r=>by have h1:g=y:=oI e;have h2:=oI r;omega),VHas.gr hG.2.2.2.1 hg (fun x e=>by cases e;exact hT) (by decide),⟨_,bE _ v9⟩,hG.2.2.2.2.2.1.elim fun f h=>⟨f,VHas.gr h hg (fun x e=>by cases e;exact hT) (by decide)⟩,hG.2.2.2.2.2.2.1.gr hg (fun x e=>by cases e;exact hT) (by decide) (by decide),hG.2.2.2.2.2.2.2.gr hg (fun x e=>by cases e;exact hT) (by decide)⟩,bE _ v9⟩
    ·exact ExOk.skip rfl (by decide) fun ev w9 v hG E pr=>by
      have e1:=E.was 3 _;have e2:ev (.tmp 33)=eS z.m z.eo z.ec:=E.tld pr 6 33;obtain⟨f9,v9⟩:=hG.2.2.2.2.2.1;have hT:=VHas.typed v9;have hg:w9.grownBy (setL w9 (w.heap.size+1) 0 (bZ z.m z.eo z.ec)) (some (w.heap.size+1)):=bP _ _ 0 _;exact⟨_,bU (bZ z.m z.eo z.ec) rfl e1 e2 v9 (by kernel_rfl) (cD (by kernel_rfl)),⟨hg,hT⟩,⟨aV hG.1 hg (by omega),VHas.gr hG.2.1 hg (fun x e=>by cases e;exact hT) (by decide),GOwn.gr hG.2.2.1 hg (fun x e=>by cases e;exact hT) (by decide),VHas.grown hG.2.2.2.1 hg (fun e=>by have:=oI e;omega),hG.2.2.2.2.1.elim fun f h=>⟨f,VHas.gr h hg (fun x e=>by cases e;exact hT) (by decide)⟩,⟨_,bE _ v9⟩,hG.2.2.2.2.2.2.1.gr hg (fun x e=>by cases e;exact hT) (by decide) (by decide),hG.2.2.2.2.2.2.2.gr hg (fun x e=>by cases e;exact hT) (by decide)⟩,bE _ v9⟩
   ·intro v9 W9 hG9 hp9
    have p7:(NdH w.heap.size y.n y.s) (v9 5) W9:=hp9 7 (by decide) (by kernel_rfl);have p8:(MsH (w.heap.size+1) z.m z.eo z.ec) (v9 6) W9:=hp9 8 (by decide) (by kernel_rfl);clear hp9;simp only[bF,Nat.zero_add,Nat.reduceAdd,Act.put,sY,sZ,ss];obtain⟨q0,q1,q2,q3,q4,q5,q6,q7,q8,q9⟩:=cN p7;obtain⟨r0,r1,r2,r3,r4,r5,r6,r7,r8⟩:=cM p8;go_wp2;exact bodyPost_ret (v:=.tuple #[aX y.n y.s,eS z.m z.eo z.ec]) (by simp[results,Tryz.results6,go_sem,q0,q1,q2,q3,q4,q5,q6,q7,q8,q9,r0,r1,r2,r3,r4,r5,r6,r7,r8]) rfl ⟨y.n,y.s,z.m,z.eo,z.ec,rfl,hG9.2.2.2.2.2.2.1.M,hyZ,hyk.W.G,⟨hG9.2.2.2.2.2.2.2.row,GOwn.cap hG9.2.2.2.2.2.2.2⟩,hzw.z,hzw.ix,hG9.1⟩
 case rest=>
  clear h2;have h2:=hcut;clear hcut
  go_wp2_with fail
  refine (tJ w.heap.size c ao k cap _ h2.cur).mono ?_;rintro e w3 ⟨n,s,rfl,hO,hz,hgd,hc9,hg9⟩;have h3:=h2.rd hc9 hg9;clear hc9 hg9;have hcl3:=h3.cur.lt;have hal:=ra w3 (.cells (aJ aU aP).toArray 27);have vN0:=aH w3 aU aP;have h4:=h3.next hal;have hO4:=hO.next hal;clear hal h2 h3 hO;obtain⟨lo,lc,vo,vc,no,nc,mo,mc⟩:=s
  go_upto_region 8 with (first|((with_reducible refine wB 27 (.tmp 7) (.tmp 35) (w3.heap.size) (aJ (n) (⟨lo,lc,vo,vc,no,nc,mo,mc⟩)) vN0 ?_);intro W4 v4 g4)|fail)
  have hTn:∀ x,some w3.heap.size=some x->aG _ x 27:=bA vN0;have h5:=h4.put g4 hcl3;have hO5:=hO4.gr g4 hTn (by decide) (by decide);clear h4 hO4 g4 hTn vN0;generalize w3.heap.size=b7 at v4 hcl3 ⊢;have hltc:=h5.lt;obtain⟨s,hs⟩:∃ s:NdS,s=⟨lo,lc,vo,vc,no,nc,mo,mc⟩:=⟨_,rfl⟩
  rw[<-hs]at v4 hz hO5;clear hs;have hd:RB W4 W4.drew:=(Below.refl _ _).drew;generalize hWd:W4.drew=Wd at hd;have hG8a:CurAt Wd w.heap.size c ao k cap/\RB w Wd/\NdB Wd b7 n s/\NdM Wd n s/\(∃ f,VHas Wd w.heap.size 27 10 f)/\(∃ f,VHas Wd (w.heap.size+1) 29 9 f)/\Wd.heap.size<=Wd.heap.size:=⟨h5.cur.next hd,rt _ _ _ h5.b hd,vn v4 hd,(hO5.next hd).M,⟨_,vn h5.n hd⟩,⟨_,vn h5.m hd⟩,Nat.le_refl _⟩
  rw[<-hWd]at hG8a;clear hd hWd h5 hO5 v4
  refine eG (by kernel_rfl) (by kernel_rfl) (by kernel_rfl) (fun W5=>CurAt W5 w.heap.size c ao k cap/\RB w W5/\NdB W5 b7 n s/\NdM W5 n s/\(∃ f,VHas W5 w.heap.size 27 10 f)/\(∃ f,VHas W5 (w.heap.size+1) 29 9 f)/\W4.drew.heap.size<=W5.heap.size) hG8a (fun i=>if i=3 then fun u v=>u.grownBy v (some c)/\aG u c 83 else if i=4 then fun u v=>u.grownBy v (some w.heap.size)/\aG u w.heap.size 27 else if i=5 then fun u v=>u.grownBy v (some (w.heap.size+1))/\aG u (w.heap.size+1) 29 else RB) [3,4,5]
   [isV (aX n s),isV (.pointer (some ⟨c,0,none⟩)),isV (aX n s),DmV W4.drew.heap.size,NdH w.heap.size n s,DmB W4.drew.heap.size (w.heap.size+1)]
   [(3,5)] [(4,0),(5,3)] [(4,3),(5,4),(5,3)] (by kernel_rfl) (by kernel_rfl) ⟨iR,iR,iR,DmV.rb,NdH.rb,DmB.rb,trivial⟩ (fun i h=>by simp at h;simp[h]) ?_ ?_ ?_
  ·intro i hi j hj hne hx hd v w1 w2 hp hG hR
   simp only[List.mem_cons,List.not_mem_nil,or_false]at hi;rcases hi with rfl|rfl|rfl
   ·have hj2:j<6:=hj
    have hj3:j=0\/j=1\/j=2\/j=3\/j=4\/j=5:=by omega
    rcases hj3 with rfl|rfl|rfl|rfl|rfl|rfl
    ·exact hp
    ·exact hp
    ·exact hp
    ·exact absurd rfl hne
    ·exact absurd (by simp) hd
    ·exact absurd (by simp) hd
   ·have hj2:j<6:=hj
    have hj3:j=0\/j=1\/j=2\/j=3\/j=4\/j=5:=by omega
    rcases hj3 with rfl|rfl|rfl|rfl|rfl|rfl
    ·exact hp
    ·exact hp
    ·exact hp
    ·exact DmV.gr hp hR.1 hR.2 (by decide)
    ·exact absurd rfl hne
    ·exact absurd (by simp) hd
   ·have hj2:j<6:=hj
    have hj3:j=0\/j=1\/j=2\/j=3\/j=4\/j=5:=by omega
    rcases hj3 with rfl|rfl|rfl|rfl|rfl|rfl
    ·exact hp
    ·exact hp
    ·exact hp
    ·exact absurd rfl hx
    ·exact VHas.gr hp hR.1 (fun x e=>by cases e;exact hR.2) (by decide)
    ·exact absurd rfl hne
  ·refine aA ?_ (aA ?_ (aA ?_ (aA ?_ (aA ?_ (aA ?_ (eF))))))
   ·exact xq rfl rfl fun ev w9 v hG E pr=>by
     have e1:=E.was 7 _;exact bD rfl e1 hG.2.2.1
   ·exact xq rfl rfl fun ev w9 v hG E pr=>by
     have e1:=E.was 4 _;simp[go_sem,e1]
   ·exact xq rfl rfl fun ev w9 v hG E pr=>by
     have e1:=E.was 7 _;exact bD rfl e1 hG.2.2.1
   ·exact ExOk.call rfl fun ev w9 v hG E pr=>by
     have e1:ev (.tmp 37)=.pointer (some ⟨c,0,none⟩):=E.tld pr 1 37;have e2:ev (.tmp 38)=aX n s:=E.tld pr 2 38;refine⟨29,#[.pointer (some ⟨c,0,none⟩),aX n s],by simp[go_sem,e1,e2,E.fn],?_⟩;refine (oB w.heap.size c ao k cap n s hz w9 hG.1 hG.2.2.2.1).mono ?_;rintro e w8 ⟨m,eo,ec,rfl,hE,hmz,hmx,hC8,hg8⟩;exact⟨_,rfl,⟨hg8,hG.1.typed⟩,⟨hC8,C7 hG.2.1 (by omega) hg8,VHas.gr hG.2.2.1 hg8 (fun x e=>by cases e;exact hG.1.typed) (by decide),hG.2.2.2.1.gr hg8 (fun x e=>by cases e;exact hG.1.typed) (by decide) (by decide),hG.2.2.2.2.1.elim fun f h=>⟨f,VHas.gr h hg8 (fun x e=>by cases e;exact hG.1.typed) (by decide)⟩,hG.2.2.2.2.2.1.elim fun f h=>⟨f,VHas.gr h hg8 (fun x e=>by cases e;exact hG.1.typed) (by decide)⟩,Nat.le_trans hG.2.2.2.2.2.2 hg8.size⟩,m,eo,ec,rfl,GOwn.from hE hG.2.2.2.2.2.2,hmz,hmx⟩
   ·exact ExOk.skip rfl (by decide) fun ev w9 v hG E pr=>by
     have e1:=E.was 2 _;have e2:ev (.tmp 36)=aX n s:=E.tld pr 0 36;obtain⟨f9,v9⟩:=hG.2.2.2.2.1;have hT:=VHas.typed v9;have hg:w9.grownBy (setL w9 w.heap.size 0 (aJ n s)) (some w.heap.size):=bP _ _ 0 _;exact⟨_,bU (aJ n s) rfl e1 e2 v9 (by kernel_rfl) (cD (by kernel_rfl)),⟨hg,hT⟩,⟨hG.1.grown hg nl (by omega),aV hG.2.1 hg nl,VHas.grown hG.2.2.1 hg (fun e=>by have:=oI e;omega),hG.2.2.2.1.gr hg (fun x e=>by cases e;exact hT) (by decide) (by decide),⟨_,bE _ v9⟩,hG.2.2.2.2.2.1.elim fun f h=>⟨f,VHas.gr h hg (fun x e=>by cases e;exact hT) (by decide)⟩,Nat.le_trans hG.2.2.2.2.2.2 hg.size⟩,bE _ v9⟩
   ·exact ExOk.skip rfl (by decide) fun ev w9 v hG E pr=>by
     have e1:=E.was 3 _;obtain⟨m,eo,ec,e2,hE,hmz,hmx⟩:DmV W4.drew.heap.size (ev (.tmp 39)) w9:=E.tld pr 3 39;obtain⟨f9,v9⟩:=hG.2.2.2.2.2.1;have hT:=VHas.typed v9;have hg:w9.grownBy (setL w9 (w.heap.size+1) 0 (bZ m eo ec)) (some (w.heap.size+1)):=bP _ _ 0 _;exact⟨_,bU (bZ m eo ec) rfl e1 e2 v9 (by kernel_rfl) (cD (by kernel_rfl)),⟨hg,hT⟩,⟨hG.1.grown hg (by omega) (by omega),aV hG.2.1 hg (by omega),VHas.gr hG.2.2.1 hg (fun x e=>by cases e;exact hT) (by decide),hG.2.2.2.1.gr hg (fun x e=>by cases e;exact hT) (by decide) (by decide),hG.2.2.2.2.1.elim fun f h=>⟨f,VHas.gr h hg (fun x e=>by cases e;exact hT) (by decide)⟩,⟨_,bE _ v9⟩,Nat.le_trans hG.2.2.2.2.2.2 hg.size⟩,m,eo,ec,bE _ v9,hE.gr hg (fun x e=>by cases e;exact hT) (by decide),hmz,hmx⟩
  ·intro v8 W8 hG8 hp8
   have p4:(NdH w.heap.size n s) (v8 0) W8:=hp8 4 (by decide) (by kernel_rfl);have p5:(DmB W4.drew.heap.size (w.heap.size+1)) (v8 3) W8:=hp8 5 (by decide) (by kernel_rfl);clear hp8;simp only[bF,Nat.zero_add,Nat.reduceAdd,Act.put,sY,sZ,ss];obtain⟨m,eo,ec,v5,hE,hmz,hmx⟩:DmB W4.drew.heap.size (w.heap.size+1) (v8 3) W8:=p5;obtain⟨q0,q1,q2,q3,q4,q5,q6,q7,q8,q9⟩:=cN p4;obtain⟨r0,r1,r2,r3,r4,r5,r6,r7,r8⟩:=cM v5;go_wp2;exact bodyPost_ret (v:=.tuple #[aX n s,eS m eo ec]) (by simp[results,Tryz.results6,go_sem,q0,q1,q2,q3,q4,q5,q6,q7,q8,q9,r0,r1,r2,r3,r4,r5,r6,r7,r8]) rfl ⟨n,s,m,eo,ec,rfl,hG8.2.2.2.1,hz,hgd,⟨hE.row,GOwn.cap hE⟩,hmz,hmx,hG8.2.1⟩
end
section
open Go.RowKit
attribute [local go_sem ↓] Go.wp_at_zero Go.wp_at_succ
theorem oQ(ao ao':Option Addr)(n cap cap':Nat)(T:Nat->Int)(X:Nat->ByteArray)(hn:n<=1048576)(w:World)(hr:NRow w ao n T X)(hr':NRow w ao' n T X):
  Calls Tryz.prog 23 #[.slice ao n cap,.slice ao' n cap'] w fun e w'=>e=.returned (.bool true)/\Below w.heap.size w w':=by
 go_enter Tryz.func23,Tryz.ntmps23;go_wp2
 go_loopw [5] (fun i wr=>∃ k:Nat,k<=n/\i=.int .i64 k/\Below w.heap.size w wr) (fun i _=>n-(intOf i).toNat)
 case atStart=>exact⟨0,Nat.zero_le _,rfl,Below.refl _ _⟩
 case round=>
  obtain⟨k,hk,rfl,hbel⟩:=hrel
  by_cases hlt:k<n
  rotate_left
  ·have hkn:k=n:=by omega
   subst hkn;go_wp2;go_ret;exact⟨rfl,hbel⟩
  obtain⟨b,o,hao,c0,c1⟩:=(hr.below hbel nl) k hlt;obtain⟨b',o',hao',d0,d1⟩:=(hr'.below hbel nl) k hlt;subst hao;subst hao';have hk1:(0:Int)<=(k:Int):=by omega
  have hk2:(k:Int)<(n:Int):=by omega
  go_wp2
  go_quiet (fail)
  go_wp2
  go_roundw
  case rel=>exact⟨k+1,by omega,by go_num,below_drewN hbel _⟩
  case measure=>simp[intOf];omega
end
section
open Go.RowKit

end
section
open Go.ChangeShapes Go.WideShapes Go.ChangeAt Go.RowKit Go.Deep Go.Joins
attribute [local go_sem ↓] Go.wp_at_zero Go.wp_at_succ
theorem BL(ao:Option Addr)(n cap:Nat)(hn:n<=9223372036854775807)(w:World):Calls Tryz.prog 5 #[.slice ao n cap] w fun e w'=>e=.returned (.bool (decide (4096<n)))/\w'=w:=by
 by_cases h:4096<n
 ·have h':4096<(n:Int):=by omega
  go_enter Tryz.func5,Tryz.ntmps5;go_wp2;go_ret;exact⟨dK (by simp[h]),rfl⟩
 ·have h':¬ 4096<(n:Int):=by omega
  go_enter Tryz.func5,Tryz.ntmps5;go_wp2;go_ret;exact⟨dK (by simp[h]),rfl⟩
theorem E9{H:Type}{enc:TypeId × Value->H}{w:World}{base:Nat}{spare:Nat->Bool}{held:Bool}{fuel:Nat}{cs:List Value}{x:DataW H × List MemPlace}
  (h:DataW.trod enc Tryz.prog w base spare held fuel 22 cs=some x):
  ∃ (ao:Option Addr) (n cap:Nat),cs=[.slice ao n cap]/\n<=maxLen/\ByRow w w.heap.size ao n:=by
 rcases open_slice Tryz.underlying22 h with ⟨rfl,_⟩|⟨a,len,cap,m,n,D,Pl,rfl,hb,hl,hm,hmm,_,hx⟩
 ·exact⟨none,0,0,rfl,Nat.zero_le _,fun k hk=>by omega⟩
 have hlm:len<=m:=by rw[hmm];split<;>omega
 have cells8:Tryz.prog.cellsOf 5=1:=by kernel_rfl
 have each:∀ i,i<len->∃ q:Int,w.cell? (a.add i)=some (.int .u8 q)/\(Lit.int .u8 q).wf=true:=by
  intro i hi;obtain⟨cs',h1,h2⟩:=hx i (by omega);rw[cells8]at h1;obtain⟨_,hlen,hcell⟩:=World.cells?_some h1
  match cs',hlen with
  | [v0],_=>
   obtain⟨q0,r0,_,f0⟩:=DataW.trod_int Tryz.underlying5 h2;have e0:=hcell 0 (by omega);rw[add_add]at e0;simp at r0;subst r0;exact⟨q0,by simpa using e0,f0⟩
 refine⟨some a,len,cap,rfl,by omega,fun k hk=>?_⟩;obtain⟨q,hq,hwf⟩:=each k hk;obtain⟨b,o,spot⟩:=a
 have hspot:spot=none:=by
  obtain⟨_,hq0,_⟩:=each 0 (by omega);have:=World.cell?_spot hq0;simpa[Addr.add] using this
 subst hspot;rw[Addr.add_mid]at hq
 have h8:0<=q/\q<=255:=by
  have h1:IntKind.min .u8=0:=by decide
  have h2:IntKind.max .u8=255:=by decide
  simp only[Lit.wf,h1,h2,Bool.and_eq_true,decide_eq_true_eq]at hwf;exact hwf
 exact⟨b,o,q,rfl,dB hq,hq,h8.1,h8.2⟩
theorem kJ(ao ao':Option Addr)(n cap cap':Nat)(f:Nat->Int)(hn:n<=1048576)(w:World)(hr:IRow w ao n f)(hr':IRow w ao' n f):
  Calls Tryz.prog 39 #[.slice ao n cap,.slice ao' n cap'] w fun e w'=>e=.returned (.bool true)/\Below w.heap.size w w':=by
 go_enter Tryz.func39,Tryz.ntmps39;go_wp2
 go_loopw [5] (fun i wr=>∃ k:Nat,k<=n/\i=.int .i64 k/\Below w.heap.size w wr) (fun i _=>n-(intOf i).toNat)
 case atStart=>exact⟨0,Nat.zero_le _,rfl,Below.refl _ _⟩
 case round=>
  obtain⟨k,hk,rfl,hbel⟩:=hrel
  by_cases hlt:k<n
  rotate_left
  ·have hkn:k=n:=by omega
   subst hkn;go_wp2;go_ret;exact⟨rfl,hbel⟩
  obtain⟨b,o,hao,c0⟩:=(hr.below hbel nl) k hlt;obtain⟨b',o',hao',d0⟩:=(hr'.below hbel nl) k hlt;subst hao;subst hao';have hk1:(0:Int)<=(k:Int):=by omega
  have hk2:(k:Int)<(n:Int):=by omega
  go_wp2
  go_quiet (fail)
  go_wp2
  go_roundw
  case rel=>exact⟨k+1,by omega,by go_num,below_drewN hbel _⟩
  case measure=>simp[intOf];omega
end
section
open Go Go.RowKit
attribute [local go_sem ↓] Go.wp_at_zero Go.wp_at_succ
theorem nV(n:Nd)(s s':NdS)(hl:n.log.length<=1048576)(hv:n.votes.length<=1048576)(hx:n.next.length<=1048576)(hm:n.mat.length<=1048576)(w:World)(hM:NdM w n s)(hM':NdM w n s'):Calls Tryz.prog 9 #[aX n s,aX n s'] w fun e w'=>e=.returned (.bool true)/\RB w w':=by
 obtain⟨lo,lc,vo,vc,no,nc,mo,mc⟩:=s;obtain⟨lo2,lc2,vo2,vc2,no2,nc2,mo2,mc2⟩:=s';have hM0:Hid (NdM w n ⟨lo,lc,vo,vc,no,nc,mo,mc⟩):=hM;have hM1:Hid (NdM w n ⟨lo2,lc2,vo2,vc2,no2,nc2,mo2,mc2⟩):=hM';clear hM hM';have hb:=rt _ _ _ (ra w (.cells (aJ n ⟨lo,lc,vo,vc,no,nc,mo,mc⟩).toArray 27)) (ra _ (.cells (aJ n ⟨lo2,lc2,vo2,vc2,no2,nc2,mo2,mc2⟩).toArray 27));have vA:NdB _ w.heap.size n ⟨lo,lc,vo,vc,no,nc,mo,mc⟩:=(aH w n ⟨lo,lc,vo,vc,no,nc,mo,mc⟩).next (ra _ (.cells (aJ n ⟨lo2,lc2,vo2,vc2,no2,nc2,mo2,mc2⟩).toArray 27));have vB:=aH (w.alloc (.cells (aJ n ⟨lo,lc,vo,vc,no,nc,mo,mc⟩).toArray 27)) n ⟨lo2,lc2,vo2,vc2,no2,nc2,mo2,mc2⟩;rw[World.size_alloc]at vB;go_enter Tryz.func9,Tryz.ntmps9;refine aW fun K0 hK0=>?_
 go_wp2;refine hK0.out _ _ ?_;clear hK0;generalize ((w.alloc _).alloc _)=W at hb vA vB ⊢;obtain⟨f0,f1,f2,f3,f4,f5,f6,f7,f8,f9⟩:=cN vA;obtain⟨g0,g1,g2,g3,g4,g5,g6,g7,g8,g9⟩:=cN vB
 go_wp2_with fail
 refine (oQ lo lo2 n.log.length lc lc2 (cL n.log) (cS n.log) hl _ ((hM0.out.next hb).l.n) ((hM1.out.next hb).l.n)).mono ?_;rintro e w1 ⟨rfl,hb1⟩;replace vA:NdB w1 w.heap.size n ⟨lo,lc,vo,vc,no,nc,mo,mc⟩:=vn vA hb1;replace vB:NdB w1 (w.heap.size+1) n ⟨lo2,lc2,vo2,vc2,no2,nc2,mo2,mc2⟩:=vn vB hb1;replace hb:=rt _ _ _ hb hb1;clear hb1 f0 f1 f2 f3 f4 f5 f6 f7 f8 f9 g0 g1 g2 g3 g4 g5 g6 g7 g8 g9;obtain⟨f0,f1,f2,f3,f4,f5,f6,f7,f8,f9⟩:=cN vA;obtain⟨g0,g1,g2,g3,g4,g5,g6,g7,g8,g9⟩:=cN vB
 go_wp2_with fail
 refine (kJ vo vo2 n.votes.length vc vc2 (aT n.votes) hv _ ((hM0.out.next hb).v.i) ((hM1.out.next hb).v.i)).mono ?_;rintro e w2 ⟨rfl,hb2⟩;replace vA:NdB w2 w.heap.size n ⟨lo,lc,vo,vc,no,nc,mo,mc⟩:=vn vA hb2;replace vB:NdB w2 (w.heap.size+1) n ⟨lo2,lc2,vo2,vc2,no2,nc2,mo2,mc2⟩:=vn vB hb2;replace hb:=rt _ _ _ hb hb2;clear hb2 f0 f1 f2 f3 f4 f5 f6 f7 f8 f9 g0 g1 g2 g3 g4 g5 g6 g7 g8 g9;obtain⟨f0,f1,f2,f3,f4,f5,f6,f7,f8,f9⟩:=cN vA;obtain⟨g0,g1,g2,g3,g4,g5,g6,g7,g8,g9⟩:=cN vB
 go_wp2_with fail
 refine (kJ no no2 n.next.length nc nc2 (aT n.next) hx _ ((hM0.out.next hb).x.i) ((hM1.out.next hb).x.i)).mono ?_;rintro e w3 ⟨rfl,hb3⟩;replace vA:NdB w3 w.heap.size n ⟨lo,lc,vo,vc,no,nc,mo,mc⟩:=vn vA hb3;replace vB:NdB w3 (w.heap.size+1) n ⟨lo2,lc2,vo2,vc2,no2,nc2,mo2,mc2⟩:=vn vB hb3;replace hb:=rt _ _ _ hb hb3;clear hb3 f0 f1 f2 f3 f4 f5 f6 f7 f8 f9 g0 g1 g2 g3 g4 g5 g6 g7 g8 g9;obtain⟨f0,f1,f2,f3,f4,f5,f6,f7,f8,f9⟩:=cN vA;obtain⟨g0,g1,g2,g3,g4,g5,g6,g7,g8,g9⟩:=cN vB
 go_wp2_with fail
 refine (kJ mo mo2 n.mat.length mc mc2 (aT n.mat) hm _ ((hM0.out.next hb).m.i) ((hM1.out.next hb).m.i)).mono ?_;rintro e w4 ⟨rfl,hb4⟩;replace hb:=rt _ _ _ hb hb4;clear f0 f1 f2 f3 f4 f5 f6 f7 f8 f9 g0 g1 g2 g3 g4 g5 g6 g7 g8 g9;go_wp2;simp[bodyPost,results,Tryz.results9,go_sem];exact hb
theorem yH(ms:List Ms)(v v':Value)(b b':Nat)(hl:ms.length<=1048576)(hms:∀ m∈ms,m.ents.length<=1048576)(w:World)(hN:NetV b ms v w)(hN':NetV b' ms v' w):Calls Tryz.prog 10 #[v,v'] w fun e w'=>e=.returned (.bool true)/\RB w w':=by
 obtain⟨ao,ac,l,rfl,hl1,hN⟩:=hN;obtain⟨bo,bc,k,rfl,hl2,hN'⟩:=hN';have e1:l.length=ms.length:=by rw[<-hl1,List.length_map]
 have e2:k.length=ms.length:=by rw[<-hl2,List.length_map]
 rw[e1,e2];go_enter Tryz.func10,Tryz.ntmps10;go_wp2
 go_loopw [5,6,7] (fun x5 x6 x7 wr=>∃ i:Nat,i<=ms.length/\x5=.int .i64 (i:Int)/\RB w wr) (fun x _ _ _=>ms.length-(intOf x).toNat)
 case atStart=>exact⟨0,Nat.zero_le _,rfl,rr _⟩
 case round=>
  obtain⟨i,hi,rfl,hR⟩:=hrel
  by_cases hlt:i<ms.length
  rotate_left
  ·have hge:¬ ((i:Int)<(ms.length:Int)):=by omega
   go_wp2;simp[bodyPost,results,Tryz.results10,go_sem];exact hR
  obtain⟨z,hz⟩:∃ z,l[i]?=some z:=⟨l[i],by simp[e1,hlt]⟩
  obtain⟨y,hy⟩:∃ y,k[i]?=some y:=⟨k[i],by simp[e2,hlt]⟩
  have hzy:z.m=y.m:=by
   have h1:ms[i]?=some z.m:=by rw[<-hl1,List.getElem?_map,hz];rfl
   have h2:ms[i]?=some y.m:=by rw[<-hl2,List.getElem?_map,hy];rfl
   rw[h1]at h2;exact oI h2
  have hzm:z.m∈ms:=by rw[<-hl1];exact List.mem_map_of_mem (List.mem_of_getElem? hz)
  have hze:=hms z.m hzm;have oz:=(hN.e z (List.mem_of_getElem? hz)).next hR;have oy:=(hN'.e y (List.mem_of_getElem? hy)).next hR;have rz:=GOwn.lrow (hN.o.next hR) (dX l);have ry:=GOwn.lrow (hN'.o.next hR) (dX k);obtain⟨zm,ze,zc⟩:=z;obtain⟨ym,ye,yc⟩:=y;simp only at hzy hze oz oy;subst hzy;obtain⟨za,eza,_,_⟩:=GOwn.vhas hN.o (by omega);obtain⟨ya,eya,_,_⟩:=GOwn.vhas hN'.o (by omega);subst eza;subst eya;have f0:=bI rz hz 0 (by omega);have g0:=bI ry hy 0 (by omega);have f1:=bI rz hz 1 (by omega);have g1:=bI ry hy 1 (by omega);have f2:=bI rz hz 2 (by omega);have g2:=bI ry hy 2 (by omega);have f3:=bI rz hz 3 (by omega);have g3:=bI ry hy 3 (by omega);have f4:=bI rz hz 4 (by omega);have g4:=bI ry hy 4 (by omega);have f5:=bI rz hz 5 (by omega);have g5:=bI ry hy 5 (by omega);have f6:=bI rz hz 6 (by omega);have g6:=bI ry hy 6 (by omega);have f7:=bI rz hz 7 (by omega);have g7:=bI ry hy 7 (by omega);have f8:=bI rz hz 8 (by omega);have g8:=bI ry hy 8 (by omega);simp[lf]at f0 f1 f2 f3 f4 f5 f6 f7 f8 g0 g1 g2 g3 g4 g5 g6 g7 g8;have hi0:(0:Int)<=(i:Int):=by omega
  have hil:(i:Int)<(ms.length:Int):=by omega
  have hwi:IntKind.i64.wrap ((i:Int)+1)=(i:Int)+1:=wi
  have hal:=ra wr (.cells (bZ gW none 0).toArray 29);have vA:=bJ wr gW none 0;have hRa:=rt _ _ _ hR hal
  go_wp2_with (first|((with_reducible refine wB 29 (.tmp 6) (.tmp 22) wr.heap.size (bZ zm ze zc) vA ?_);intro W2 vA2 gA;have hR2:RB wr W2:=aV hal gA nl;have hal2:=ra W2 (.cells (bZ gW none 0).toArray 29);have vB:=bJ W2 gW none 0;have hsz2:wr.heap.size<W2.heap.size:=vA2.lt;replace g0:=aB hR2 nl g0;replace g1:=aB hR2 nl g1;replace g2:=aB hR2 nl g2;replace g3:=aB hR2 nl g3;replace g4:=aB hR2 nl g4;replace g5:=aB hR2 nl g5;replace g6:=aB hR2 nl g6;replace g7:=aB hR2 nl g7;replace g8:=aB hR2 nl g8)|((with_reducible refine wB 29 (.tmp 7) (.tmp 26) W2.heap.size (bZ zm ye yc) vB ?_);intro W3 vB3 gB;have vA3:MsB W3 wr.heap.size zm ze zc:=(VHas.grown (vn vA2 hal2) gB (fun e=>by have:=oI e;omega));have hR3:RB wr W3:=rt _ _ _ hR2 (aV hal2 gB nl);clear f0 f1 f2 f3 f4 f5 f6 f7 f8 g0 g1 g2 g3 g4 g5 g6 g7 g8;obtain⟨f0,f1,f2,f3,f4,f5,f6,f7,f8⟩:=cM vA3;obtain⟨g0,g1,g2,g3,g4,g5,g6,g7,g8⟩:=VHas.c9 vB3 (by simp);simp[lf]at g0 g1 g2 g3 g4 g5 g6 g7 g8)|fail)
  have hR4:=rt _ _ _ hR hR3;refine (oQ ze ye zm.ents.length zc yc (cL zm.ents) (cS zm.ents) hze _ ((oz.next hR3).row.n) ((oy.next hR3).row.n)).mono ?_;rintro e w5 ⟨rfl,hb5⟩;have hR5:=rt _ _ _ hR4 hb5;have vA5:MsB w5 wr.heap.size zm ze zc:=vn vA3 hb5;have vB5:MsB w5 W2.heap.size zm ye yc:=vn vB3 hb5;clear f0 f1 f2 f3 f4 f5 f6 f7 f8 g0 g1 g2 g3 g4 g5 g6 g7 g8;obtain⟨f0,f1,f2,f3,f4,f5,f6,f7,f8⟩:=cM vA5;obtain⟨g0,g1,g2,g3,g4,g5,g6,g7,g8⟩:=cM vB5;go_wp2
  go_roundw
  case rel=>first|exact⟨i+1,by omega,by go_num,hR5⟩|exact⟨i+1,by omega,by go_num⟩
  case measure=>simp[intOf];omega
end
end Go.Proofs.YtbabakgjkloabaaGreatDoor
