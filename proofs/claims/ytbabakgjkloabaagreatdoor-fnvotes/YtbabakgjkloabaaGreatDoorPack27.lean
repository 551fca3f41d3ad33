/-
  Helpers: Dna.
-/
import Derived.Test.YtbabakgjkloabaaGreatDoorPack26
set_option linter.unusedVariables false
set_option linter.unusedSimpArgs false
set_option maxRecDepth 100000
set_option maxHeartbeats 16000000
namespace Go.Proofs.YtbabakgjkloabaaGreatDoor
section
open Go Go.RowKit
attribute [local go_sem ↓] Go.wp_at_zero Go.wp_at_succ
theorem RD.refl{base c:Nat}{bo:Option Addr}{bn bc:Nat}(w:World):RD base c bo bn bc w w:=⟨yX (Below.refl _ _),fun h=>h⟩
theorem RD.trans{base c:Nat}{bo:Option Addr}{bn bc:Nat}(u v w:World)(h:RD base c bo bn bc u v)(k:RD base c bo bn bc v w):RD base c bo bn bc u w:=⟨h.1.trans k.1,fun q=>k.2 (h.2 q)⟩
theorem RD.rb{base c:Nat}{bo:Option Addr}{bn bc:Nat}{u v:World}(h:RB u v):RD base c bo bn bc u v:=⟨eQ h,fun q=>q.next h⟩
theorem pO(lo hi:Int)(h1:-10<=lo/\lo<=hi)(h2:hi<=10)(base c:Nat)(ao:Option Addr)(n cap:Nat)(w:World)(hC:CurAt w base c ao n cap):
  Calls Tryz.prog 68 #[.pointer (some ⟨c,0,none⟩),.int .i64 lo,.int .i64 hi] w fun e w'=>∃ x:Int,e=.returned (.int .i64 x)/\(lo<=x/\x<=hi)/\CurAt w' base c ao n cap/\w.grownBy w' (some c):=by
 have hw1:IntKind.i64.wrap (hi-lo)=hi-lo:=wi
 have hw2:IntKind.i64.wrap (hi-lo+1)=hi-lo+1:=wi
 go_enter Tryz.func68,Tryz.ntmps68
 go_wp2_with fail
 refine (aI base c ao n cap (hi-lo+1) (by omega) (by omega) _ hC).mono ?_;rintro e w1 ⟨x,rfl,hx,hC1,hg1⟩;have hw3:IntKind.i64.wrap (lo+(x:Int))=lo+(x:Int):=wi
 go_wp2;go_ret;exact⟨_,rfl,by omega,hC1,hg1⟩
structure DNa(w:World)(base c:Nat)(bo:Option Addr)(bn bc:Nat)(W:World):Prop where
 cur:CurAt W base c bo bn bc
 res:NdB W w.heap.size aU aP
 gr:w.grownBy W (some c)
 lt:c<w.heap.size
section
variable {w:World} {base c:Nat} {bo:Option Addr} {bn bc:Nat} {W W':World}
theorem DNa.next(h:DNa w base c bo bn bc W)(hb:RB W W'):DNa w base c bo bn bc W':=⟨h.cur.next hb,vn h.res hb,h.gr.trans (eQ hb),h.lt⟩
theorem DNa.rd(h:DNa w base c bo bn bc W)(hC:CurAt W' base c bo bn bc)(hg:W.grownBy W' (some c)):DNa w base c bo bn bc W':=
 have hl:=h.lt
 ⟨hC,VHas.grown h.res hg (fun e=>by have:=oI e;omega),h.gr.trans hg,h.lt⟩
theorem DNa.put(h:DNa w base c bo bn bc W){row:Option Nat}(hg:W.grownBy W' row)(hx:∀ x,row=some x->w.heap.size<x):DNa w base c bo bn bc W':=
 have hl:=h.lt;have hge:=h.cur.ge
 ⟨(by
  cases row with
  | none=>exact h.cur.next ⟨hg.os,hg.tape,hg.output,hg.size,fun k hk=>hg.block k hk (by simp)⟩
  | some x=>exact h.cur.grown hg (by have:=hx x rfl;omega) (by have:=hx x rfl;omega)),VHas.grown h.res hg (fun e=>by have:=hx _ e.symm;omega),⟨hg.os.trans h.gr.os,hg.tape.trans h.gr.tape,hg.output.trans h.gr.output,Nat.le_trans h.gr.size hg.size,fun k hk hc=>(hg.block k (Nat.lt_of_lt_of_le hk h.gr.size) (fun e=>by have:=hx k e.symm;omega)).trans (h.gr.block k hk hc)⟩,h.lt⟩
end
theorem OkW.G{n:Nd}(h:OkW n):GdW n:=fun _=>h.z
def FI(W:World)(b B:Nat):Prop:=∃ n s,NdB W b n s/\NdO W B n s/\NdZ n s/\GdW n
def GR(base c:Nat)(bo:Option Addr)(bn bc:Nat)(w:World)(e:Ending)(w':World):Prop:=∃ n s,e=.returned (aX n s)/\NdO w' w.heap.size n s/\NdZ n s/\GdW n/\CurAt w' base c bo bn bc/\w.grownBy w' (some c)
def IxV(k:Nat)(v:Value)(w:World):Prop:=∃ x:Nat,v=.int .i64 (x:Int)/\x<k
theorem IxV.rb{k:Nat}(v:Value)(w w':World)(h:IxV k v w)(hb:RB w w'):IxV k v w':=h
def PtV(g sz k:Nat)(v:Value)(w:World):Prop:=∃ x:Nat,v=.pointer (some ⟨g,x*sz,none⟩)/\x<k
theorem PtV.rb{g sz k:Nat}(v:Value)(w w':World)(h:PtV g sz k v w)(hb:RB w w'):PtV g sz k v w':=h
def NzV(l:List Nq)(v:Value)(w:World):Prop:=∃ z∈l,v=aX z.n z.s
theorem NzV.rb{l:List Nq}(v:Value)(w w':World)(h:NzV l v w)(hb:RB w w'):NzV l v w':=h
def BxZ(H:Nat)(l:List Nq)(v:Value)(w:World):Prop:=∃ b,v=.pointer (some ⟨b,0,none⟩)/\H<=b/\∃ z∈l,NdB w b z.n z.s
theorem BxZ.rb{H:Nat}{l:List Nq}(v:Value)(w w':World)(h:BxZ H l v w)(hb:RB w w'):BxZ H l v w':=by
 obtain⟨b,e,h1,z,hz,h⟩:=h;exact⟨b,e,h1,z,hz,vn h hb⟩
structure DNb(w:World)(base c:Nat)(bo:Option Addr)(bn bc:Nat)(bk:Nat)(l:List Nq)(ao:Option Addr)(cap nq:Nat)(eo:Option Addr)(ec:Nat)(W:World):Prop where
 d:DNa w base c bo bn bc W
 x:VHas W bk 54 2 (lf [.slice ao l.length cap,.slice eo nq ec])
 n:GOwn W (w.heap.size+1) 27 10 ao l.length cap (lf (mX l))
 nl:∀ z∈l,NdO W (w.heap.size+1) z.n z.s
section
variable {w:World} {base c:Nat} {bo:Option Addr} {bn bc:Nat} {bk:Nat} {l:List Nq} {ao:Option Addr} {cap nq:Nat} {eo:Option Addr} {ec:Nat} {W W':World}
theorem DNb.next(h:DNb w base c bo bn bc bk l ao cap nq eo ec W)(hb:RB W W'):DNb w base c bo bn bc bk l ao cap nq eo ec W':=⟨h.d.next hb,vn h.x hb,GOwn.next h.n hb,fun z hz=>(h.nl z hz).next hb⟩
theorem DNb.rd(h:DNb w base c bo bn bc bk l ao cap nq eo ec W)(hC:CurAt W' base c bo bn bc)(hg:W.grownBy W' (some c)):DNb w base c bo bn bc bk l ao cap nq eo ec W':=
 have hT:∀ x,some c=some x->aG W x 83:=fun x e=>by cases e;exact h.d.cur.typed
 ⟨h.d.rd hC hg,VHas.gr h.x hg hT (by decide),GOwn.gr h.n hg hT (by decide),fun z hz=>(h.nl z hz).gr hg hT (by decide) (by decide)⟩
theorem DNb.nd(h:DNb w base c bo bn bc bk l ao cap nq eo ec W){x:Nat}(hg:W.grownBy W' (some x))(hx:w.heap.size<x)(hn:(Value.slice ao l.length cap).ownBlock≠some x)(hT:aG W x 27):DNb w base c bo bn bc bk l ao cap nq eo ec W':=
 have hT':∀ y,some x=some y->aG W y 27:=fun y e=>by cases e;exact hT
 ⟨h.d.put hg (fun y e=>by cases e;exact hx),VHas.gr h.x hg hT' (by decide),GOwn.grown h.n hg (fun y e q=>hn (by rw[e];exact q.symm)),fun z hz=>(h.nl z hz).gr hg hT' (by decide) (by decide)⟩
end
def L1x(c:Nat)(v:Value)(w:World):Prop:=∃ (x:Int) (B:Nat),v=.slice (some ⟨B,0,none⟩) 1 1/\c<B/\VHas w B 2 1 (lf [.int .i64 x])
theorem L1x.rd{base c:Nat}{bo:Option Addr}{bn bc:Nat}(v:Value)(w w':World)(h:L1x c v w)(hR:RD base c bo bn bc w w'):L1x c v w':=by
 obtain⟨x,B,e,h1,h⟩:=h;exact⟨x,B,e,h1,VHas.grown h hR.1 (fun q=>by have:=oI q;omega)⟩
def L3x(c:Nat)(v:Value)(w:World):Prop:=∃ (x y z:Int) (B:Nat),v=.slice (some ⟨B,0,none⟩) 3 3/\c<B/\VHas w B 2 3 (lf [.int .i64 x,.int .i64 y,.int .i64 z])
theorem L3x.rd{base c:Nat}{bo:Option Addr}{bn bc:Nat}(v:Value)(w w':World)(h:L3x c v w)(hR:RD base c bo bn bc w w'):L3x c v w':=by
 obtain⟨x,y,z,B,e,h1,h⟩:=h;exact⟨x,y,z,B,e,h1,VHas.grown h hR.1 (fun q=>by have:=oI q;omega)⟩
def P3x(c:Nat)(v:Value)(w:World):Prop:=∃ (x:Int) (B k:Nat),v=.pointer (some ⟨B,k,none⟩)/\c<B/\w.cell? ⟨B,k,none⟩=some (.int .i64 x)
theorem P3x.rd{base c:Nat}{bo:Option Addr}{bn bc:Nat}(v:Value)(w w':World)(h:P3x c v w)(hR:RD base c bo bn bc w w'):P3x c v w':=by
 obtain⟨x,B,k,e,h1,h⟩:=h;refine⟨x,B,k,e,h1,?_⟩
 have hlt:B<w.heap.size:=by
  simp only[World.cell?]at h;rcases Nat.lt_or_ge B w.heap.size with q|q
  ·exact q
  ·rw[Array.getElem?_eq_none q]at h;simp at h
 rw[World.cell?_of_block (hR.1.block B hlt (fun q=>by have:=oI q;omega))];exact h
theorem IvV.rd{base c:Nat}{bo:Option Addr}{bn bc:Nat}(v:Value)(w w':World)(h:IvV v w)(hR:RD base c bo bn bc w w'):IvV v w':=h
theorem IxV.rd{base c:Nat}{bo:Option Addr}{bn bc k:Nat}(v:Value)(w w':World)(h:IxV k v w)(hR:RD base c bo bn bc w w'):IxV k v w':=h
theorem isV.rd{base c:Nat}{bo:Option Addr}{bn bc:Nat}{u:Value}(v:Value)(w w':World)(h:isV u v w)(hR:RD base c bo bn bc w w'):isV u v w':=h
def LaV(B:Nat)(l:List Int)(p q:Option Addr)(v:Value)(w:World):Prop:=∃ (x:Int) (a:Option Addr) (c:Nat),v=.slice a (l++[x]).length c/\OwI w B a c (l++[x])/\∀ z,dI a=some z->dI p≠some z/\dI q≠some z
theorem LaV.rd{base c:Nat}{bo:Option Addr}{bn bc B:Nat}{l:List Int}{p q:Option Addr}(hc:c<B)(v:Value)(w w':World)(h:LaV B l p q v w)(hR:RD base c bo bn bc w w'):LaV B l p q v w':=by
 obtain⟨x,a,k,e,h1,h2⟩:=h
 exact⟨x,a,k,e,GOwn.grown h1 hR.1 (fun y e q=>by
  have:=(GOwn.at h1 e).1;have:=oI q
  omega),h2⟩
theorem M6{o:Oper}{ev:Operand->Value}{x y:Operand}{B c0:Nat}{l:List Int}{ao p q:Option Addr}{cap cp cq:Nat}{lp lq:List Int}{w:World}(ho:o.op=.call { callee:=.builtin .append,args:=#[x,y],argTypes:=#[25,25] })(hx:ev x=.slice ao l.length cap)(hO:OwI w B ao cap l)(hy:L1x c0 (ev y) w)(hl:l.length<=1000)(hb:B<=w.heap.size)(hp:OwI w B p cp lp)(hq:OwI w B q cq lq)(h1:∀ z,dI ao=some z->dI p≠some z)(h2:∀ z,dI ao=some z->dI q≠some z):
  ∃ u w',(execOp ev o).run Tryz.prog w=.ok (.value u) w'/\LaV B l p q u w'/\w.grownBy w' (dI ao):=by
 obtain⟨i,D,e2,_,hD⟩:=hy
 have hgr:GRow w (some ⟨D,0,none⟩) (1*1) (fun _=>.int .i64 i):=fun _=>⟨D,0,rfl,fun j hj=>by
  obtain rfl:j=0:=by omega
  have:=VHas.cell hD (j:=0) (by omega)
  simpa[lf] using this⟩
 obtain⟨a,c,w',hrun,hown,hg,hd⟩:=lN Tryz.elIQ w o.type B _ ao l.length cap hO (some ⟨D,0,none⟩) 1 1 _ hgr (fun j=>rfl) (by omega) hb;rw[bK]at hg;refine⟨_,w',dP ho hx e2 hrun,⟨i,a,c,by simp,OwI.snoc hown,fun z e=>?_⟩,hg⟩;exact⟨nN hd hp h1 z e,nN hd hq h2 z e⟩
theorem tJ(base c:Nat)(bo:Option Addr)(bn bc:Nat)(w:World)(hC:CurAt w base c bo bn bc):Calls Tryz.prog 28 #[.pointer (some ⟨c,0,none⟩)] w fun e w'=>GR base c bo bn bc w e w':=by
 have hcl:=hC.lt;have hal:=ra w (.cells (aJ aU aP).toArray 27);have hD:DNa w base c bo bn bc (w.alloc (.cells (aJ aU aP).toArray 27)):=⟨hC.next hal,aH w aU aP,eQ hal,hcl⟩
 have hsW:(w.alloc (.cells (aJ aU aP).toArray 27)).heap.size=w.heap.size+1:=World.size_alloc _ _;clear hal hC;go_enter Tryz.func28,Tryz.ntmps28;refine aW fun K0 hK0=>?_
 go_wp2;refine hK0.out _ _ ?_;clear hK0;generalize (w.alloc _)=W at hD hsW ⊢;refine aW fun K0 hK0=>?_
 go_wp2_with fail
 refine (qN base c bo bn bc _ hD.cur).mono ?_;rintro e w1 ⟨l,q,ao,cap,eo,ec,rfl,hV,hP,hc9,hg9⟩;rw[hsW]at hV;replace hD:=hD.rd hc9 hg9;clear hc9 hg9 hsW;have hl5:=hP.len;have hal:=ra w1 (.cells #[.slice none 0 0,.slice none 0 0] 54);have vK:VHas (w1.alloc (.cells #[.slice none 0 0,.slice none 0 0] 54)) w1.heap.size 54 2 (lf [.slice none 0 0,.slice none 0 0]):=bH w1 [.slice none 0 0,.slice none 0 0] 54;have hs1:w.heap.size<w1.heap.size:=hD.res.lt;replace hD:=hD.next hal;have hVn:=GOwn.next hV.n hal;have hVl:=fun z hz=>(hV.nl z hz).next hal
 clear hal hV
 go_wp2_with (first|((with_reducible refine wB 54 (.tmp 3) (.tmp 6) w1.heap.size [.slice ao l.length cap,.slice eo q.length ec] vK ?_);intro W2 hv2 hg2)|fail)
 have hTk:∀ x,some w1.heap.size=some x->aG (w1.alloc (.cells #[.slice none 0 0,.slice none 0 0] 54)) x 54:=fun x e=>by cases e;exact vK.typed
 replace hVn:=GOwn.gr hVn hg2 hTk (by decide);have hVl2:=fun z hz=>(hVl z hz).gr hg2 hTk (by decide) (by decide)
 replace hD:=hD.put hg2 (fun x e=>by cases e;exact hs1);clear hTk vK hVl hg2;generalize w1.heap.size=bk at hv2 hs1 ⊢;obtain⟨g,eg,hgb,_⟩:=GOwn.vhas hVn (by omega);subst eg;have hB1:DNb w base c bo bn bc bk l (some ⟨g,0,none⟩) cap q.length eo ec W2:=⟨hD,hv2,hVn,hVl2⟩
 clear hD hv2 hVn hVl2;refine hK0.out _ _ ?_;clear hK0;refine aW fun K0 hK0=>?_
 have hB0:=hB1.next (show RB W2 W2.drew from (Below.refl _ _).drew)
 have hgk:g<W2.drew.heap.size:=by
  have:=hB0.n;exact (GOwn.at this rfl).2
 have hWs:w.heap.size+1<=W2.drew.heap.size:=hB0.d.res.lt
 refine eG (by kernel_rfl) (by kernel_rfl) (by kernel_rfl) (fun W5=>DNb w base c bo bn bc bk l (some ⟨g,0,none⟩) cap q.length eo ec W5/\W2.drew.heap.size<=W5.heap.size) ⟨hB0,Nat.le_refl _⟩ (fun i=>if i=6 then RD base c bo bn bc else if i=10 then S7 W2.drew.heap.size else RB) [6,10]
  [isV (.pointer (some ⟨bk,0,none⟩)),isV (.slice (some ⟨g,0,none⟩) l.length cap),isV (.pointer (some ⟨c,0,none⟩)),isV (.pointer (some ⟨bk,0,none⟩)),isV (.slice (some ⟨g,0,none⟩) l.length cap),isV (.int .i64 (l.length:Int)),IxV l.length,PtV g 10 l.length,NzV l,BxN W2.drew.heap.size,BxZ W2.drew.heap.size l]
  [(9,10)] [(10,9)] [] (by kernel_rfl) (by kernel_rfl) ⟨iR,iR,iR,iR,iR,iR,IxV.rb,PtV.rb,NzV.rb,BxN.rb,BxZ.rb,trivial⟩ (fun i h=>by simp at h;simp[h]) ?_ ?_ ?_
 ·intro i hi j hj hne hx hd v w1 w2 hp hG hR
  simp only[List.mem_cons,List.not_mem_nil,or_false]at hi;rcases hi with rfl|rfl
  ·have hj2:j<11:=hj
   have hj3:j=0\/j=1\/j=2\/j=3\/j=4\/j=5\/j=6\/j=7\/j=8\/j=9\/j=10:=by omega
   rcases hj3 with rfl|rfl|rfl|rfl|rfl|rfl|rfl|rfl|rfl|rfl|rfl
   ·exact hp
   ·exact hp
   ·exact hp
   ·exact hp
   ·exact hp
   ·exact hp
   ·exact absurd rfl hne
   ·exact hp
   ·exact hp
   ·obtain⟨b4,e,h1,h2⟩:=hp
    exact⟨b4,e,h1,VHas.gr h2 hR.1 (fun x e=>by cases e;exact hG.1.d.cur.typed) (by decide)⟩
   ·obtain⟨b4,e,h1,y,hy,h2⟩:=hp
    exact⟨b4,e,h1,y,hy,VHas.gr h2 hR.1 (fun x e=>by cases e;exact hG.1.d.cur.typed) (by decide)⟩
  ·have hj2:j<11:=hj
   have hj3:j=0\/j=1\/j=2\/j=3\/j=4\/j=5\/j=6\/j=7\/j=8\/j=9\/j=10:=by omega
   rcases hj3 with rfl|rfl|rfl|rfl|rfl|rfl|rfl|rfl|rfl|rfl|rfl
   ·exact hp
   ·exact hp
   ·exact hp
   ·exact hp
   ·exact hp
   ·exact hp
   ·exact hp
   ·exact hp
   ·exact hp
   ·exact absurd rfl hx
   ·exact absurd rfl hne
 ·refine aA ?_ (aA ?_ (aA ?_ (aA ?_ (aA ?_ (aA ?_ (aA ?_ (aA ?_ (aA ?_ (aA ?_ (aA ?_ (eF)))))))))))
  ·exact xq rfl rfl fun ev w9 v hG E pr=>by
    have e1:=E.was 3 _;simp[go_sem,e1]
  ·exact xq rfl rfl fun ev w9 v hG E pr=>by
    have e1:ev (.tmp 7)=.pointer (some ⟨bk,0,none⟩):=E.tld pr 0 7;have cc:=(hG.1.x).cell (j:=0) (by omega);simp[lf]at cc;simp[go_sem,cc,e1]
  ·exact xq rfl rfl fun ev w9 v hG E pr=>by
    have e1:=E.was 0 _;simp[go_sem,e1]
  ·exact xq rfl rfl fun ev w9 v hG E pr=>by
    have e1:=E.was 3 _;simp[go_sem,e1]
  ·exact xq rfl rfl fun ev w9 v hG E pr=>by
    have e1:ev (.tmp 10)=.pointer (some ⟨bk,0,none⟩):=E.tld pr 3 10;have cc:=(hG.1.x).cell (j:=0) (by omega);simp[lf]at cc;simp[go_sem,cc,e1]
  ·exact xq rfl rfl fun ev w9 v hG E pr=>by
    have e1:ev (.tmp 11)=.slice (some ⟨g,0,none⟩) l.length cap:=E.tld pr 4 11;simp[go_sem,e1]
  ·exact ExOk.call rfl fun ev w9 v hG E pr=>by
    have e1:ev (.tmp 9)=.pointer (some ⟨c,0,none⟩):=E.tld pr 2 9;have e2:ev (.tmp 12)=.int .i64 (l.length:Int):=E.tld pr 5 12;refine⟨27,#[.pointer (some ⟨c,0,none⟩),.int .i64 (l.length:Int)],by simp[go_sem,e1,e2,E.fn],?_⟩;refine (aI base c bo bn bc (l.length:Int) (by omega) (by omega) w9 hG.1.d.cur).mono ?_;rintro e w8 ⟨x,rfl,hx,hC8,hg8⟩;exact⟨_,rfl,⟨hg8,fun _=>hC8⟩,⟨hG.1.rd hC8 hg8,Nat.le_trans hG.2 hg8.size⟩,x,rfl,by omega⟩
  ·exact ExOk.val rfl fun ev w9 v hG E pr=>by
    have e1:ev (.tmp 8)=.slice (some ⟨g,0,none⟩) l.length cap:=E.tld pr 1 8;obtain⟨x,e2,hx⟩:IxV l.length (ev (.tmp 13)) w9:=E.tld pr 6 13;have hx0:(0:Int)<=(x:Int):=by omega
    have hx1:(x:Int)<(l.length:Int):=by omega
    exact⟨.pointer (some ⟨g,x*10,none⟩),w9,by simp[go_sem,e1,e2,hx0,hx1],rr _,hG,x,rfl,hx⟩
  ·exact ExOk.val rfl fun ev w9 v hG E pr=>by
    obtain⟨x,e1,hx⟩:PtV g 10 l.length (ev (.tmp 14)) w9:=E.tld pr 7 14;obtain⟨y,hy⟩:=lW hx;exact⟨aX y.n y.s,w9,iC rfl e1 hG.1.n hy,rr _,hG,y,List.mem_of_getElem? hy,rfl⟩
  ·exact ExOk.val rfl fun ev w9 v hG E pr=>⟨.pointer (some ⟨w9.heap.size,0,none⟩),w9.alloc (.cells (aJ aU aP).toArray 27),(by (simp[go_sem])<;>rfl),ra _ _,⟨hG.1.next (ra _ _),by rw[World.size_alloc];exact Nat.le_succ_of_le hG.2⟩,w9.heap.size,rfl,hG.2,aH w9 aU aP⟩
  ·exact ExOk.skip rfl (by decide) fun ev w9 v hG E pr=>by
    obtain⟨b4,e1,hb4,vB⟩:BxN W2.drew.heap.size (ev (.tmp 4)) w9:=E.tld pr 9 4;obtain⟨y,hy,e2⟩:NzV l (ev (.tmp 15)) w9:=E.tld pr 8 15;have hg:w9.grownBy (setL w9 b4 0 (aJ y.n y.s)) (some b4):=bP _ _ 0 _;have e3:v 9=ev (.tmp 4):=(E.at_ 9 4 rfl (by kernel_rfl) (nb (by kernel_rfl))).symm
    have h10:BxZ W2.drew.heap.size l (v 9) (setL w9 b4 0 (aJ y.n y.s)):=by
     rw[e3];exact⟨b4,e1,hb4,y,hy,bE _ vB⟩
    exact⟨_,bU (aJ y.n y.s) rfl e1 e2 vB (by kernel_rfl) (cD (by kernel_rfl)),⟨b4,hg,vB.typed,hb4⟩,⟨hG.1.nd hg (by omega) (fun e=>by have e':g=b4:=oI e;omega) vB.typed,Nat.le_trans hG.2 hg.size⟩,h10⟩
 ·intro v8 W8 hG8 hp8
  have p10:(BxZ W2.drew.heap.size l) (v8 9) W8:=hp8 10 (by decide) (by kernel_rfl);clear hp8;obtain⟨b4,e4,hb4,z,hz,v4⟩:BxZ W2.drew.heap.size l (v8 9) W8:=p10;simp only[bF,Nat.zero_add,Nat.reduceAdd,Act.put,sY,sZ,ss,e4];refine hK0.out _ _ ?_;obtain⟨hB8,_⟩:=hG8;obtain⟨iz,hiz⟩:=List.getElem?_of_mem hz;obtain⟨hk,_,_,htx⟩:=hP.ok iz z hiz;have hO:=hB8.nl z hz;have hzz:NdZ z.n z.s:=hk.zz htx hO.K;have hD1:=hB8.d;have hw4:w.heap.size<b4:=by omega
  have hcB:c<w.heap.size+1:=by omega
  clear hK0 hB1 hB0 hgk hWs hb4 e4 hB8 hz hiz hP;obtain⟨n,s⟩:=z;obtain⟨lo,lc,vo,vc,no,nc,mo,mc⟩:=s;simp only at v4 hk htx hO hzz;have hfew:=hk.few;refine wp_seq_k fun K1 hK1=>?_
  go_cut [] (fun wc=>DNa w base c bo bn bc wc/\FI wc b4 (w.heap.size+1))
  case first=>
   go_wp2_with fail
   refine (dA base c bo bn bc 12 (by omega) (by omega) _ hD1.cur).mono ?_;rintro e w4 ⟨bb,rfl,hc9,hg9⟩;have hTc:∀ x,some c=some x->aG _ x 83:=fun x e=>by cases e;exact hD1.cur.typed
   replace v4:NdB w4 b4 n ⟨lo,lc,vo,vc,no,nc,mo,mc⟩:=VHas.gr v4 hg9 hTc (by decide);replace hO:=hO.gr hg9 hTc (by decide) (by decide);have hD2:=hD1.rd hc9 hg9;clear hc9 hg9 hTc;cases bb
   ·go_wp2
    go_meet
    case rel=>exact⟨hD2,n,⟨lo,lc,vo,vc,no,nc,mo,mc⟩,v4,hO,hzz,hk.W.G⟩
   go_wp2_with fail
   refine (aI base c bo bn bc 9 (by omega) (by omega) _ hD2.cur).mono ?_;rintro e w5 ⟨x,rfl,hx,hc9,hg9⟩;have hTc:∀ x,some c=some x->aG _ x 83:=fun x e=>by cases e;exact hD2.cur.typed
   replace v4:NdB w5 b4 n ⟨lo,lc,vo,vc,no,nc,mo,mc⟩:=VHas.gr v4 hg9 hTc (by decide);replace hO:=hO.gr hg9 hTc (by decide) (by decide);have hD3:=hD2.rd hc9 hg9;clear hc9 hg9 hTc;have hxx:x=0\/x=1\/x=2\/x=3\/x=4\/x=5\/x=6\/x=7\/x=8:=by omega
   rcases hxx with rfl|rfl|rfl|rfl|rfl|rfl|rfl|rfl|rfl
   ·have hal:=ra w5 (.cells #[.int .i64 (-1),.int .i64 5,.int .i64 0] 2)
    replace hD3:=hD3.next hal;replace v4:NdB (w5.alloc (.cells #[.int .i64 (-1),.int .i64 5,.int .i64 0] 2)) b4 n ⟨lo,lc,vo,vc,no,nc,mo,mc⟩:=vn v4 hal;replace hO:=hO.next hal;have hcs:VHas (w5.alloc (.cells #[.int .i64 (-1),.int .i64 5,.int .i64 0] 2)) w5.heap.size 2 3 (lf [.int .i64 (-1),.int .i64 5,.int .i64 0]):=bH w5 [.int .i64 (-1),.int .i64 5,.int .i64 0] 2;clear hal
    go_wp2_with fail
    refine (aI base c bo bn bc 3 (by omega) (by omega) _ hD3.cur).mono ?_;rintro e w6 ⟨y,rfl,hy,hc9,hg9⟩;replace hcs:VHas w6 w5.heap.size 2 3 (lf [.int .i64 (-1),.int .i64 5,.int .i64 0]):=VHas.gr hcs hg9 (fun x e=>by cases e;exact hD3.cur.typed) (by decide);have hTc:∀ x,some c=some x->aG _ x 83:=fun x e=>by cases e;exact hD3.cur.typed
    replace v4:NdB w6 b4 n ⟨lo,lc,vo,vc,no,nc,mo,mc⟩:=VHas.gr v4 hg9 hTc (by decide);replace hO:=hO.gr hg9 hTc (by decide) (by decide);have hD4:=hD3.rd hc9 hg9;clear hc9 hg9 hTc
    obtain⟨xv,hxv⟩:∃ xv:Int,w6.cell? ⟨w5.heap.size,y,none⟩=some (.int .i64 xv):=by
     have hyy:y=0\/y=1\/y=2:=by omega
     rcases hyy with rfl|rfl|rfl
     ·exact⟨_,VHas.cell hcs (j:=0) (by omega)⟩
     ·exact⟨_,VHas.cell hcs (j:=1) (by omega)⟩
     ·exact⟨_,VHas.cell hcs (j:=2) (by omega)⟩
    have hy0:(0:Int)<=(y:Int):=by omega
    clear hcs
    go_wp2_with (first|((with_reducible refine wN 2 (.tmp 27) (.tmp 26) (b4) 0 (.int .i64 xv) ((⟨xv,n.peers,n.term,n.vote,n.log,n.role,n.commit,n.votes,n.next,n.mat⟩:Nd)) (⟨lo,lc,vo,vc,no,nc,mo,mc⟩) v4 ?_);intro WX vX gX)|fail)
    go_meet
    case rel=>exact⟨hD4.put gX (fun x e=>by cases e;exact hw4),(⟨xv,n.peers,n.term,n.vote,n.log,n.role,n.commit,n.votes,n.next,n.mat⟩:Nd),⟨lo,lc,vo,vc,no,nc,mo,mc⟩,vX,(have oX:=hO.gr gX (bA v4) (by decide) (by decide);⟨oX.l,oX.v,oX.x,oX.m,oX.vx,oX.vm,oX.xm⟩),⟨hzz.l,hzz.v,hzz.x,hzz.m,hzz.lc,hzz.vc,hzz.xc,hzz.mc,hzz.tx⟩,GdW.of (fun hr=>(hk.z hr).1)⟩
   ·have hal:=ra w5 (.cells #[.int .i64 0,.int .i64 1,.int .i64 5,.int .i64 6] 2)
    replace hD3:=hD3.next hal;replace v4:NdB (w5.alloc (.cells #[.int .i64 0,.int .i64 1,.int .i64 5,.int .i64 6] 2)) b4 n ⟨lo,lc,vo,vc,no,nc,mo,mc⟩:=vn v4 hal;replace hO:=hO.next hal;have hcs:VHas (w5.alloc (.cells #[.int .i64 0,.int .i64 1,.int .i64 5,.int .i64 6] 2)) w5.heap.size 2 4 (lf [.int .i64 0,.int .i64 1,.int .i64 5,.int .i64 6]):=bH w5 [.int .i64 0,.int .i64 1,.int .i64 5,.int .i64 6] 2;clear hal
    go_wp2_with fail
    refine (aI base c bo bn bc 4 (by omega) (by omega) _ hD3.cur).mono ?_;rintro e w6 ⟨y,rfl,hy,hc9,hg9⟩;replace hcs:VHas w6 w5.heap.size 2 4 (lf [.int .i64 0,.int .i64 1,.int .i64 5,.int .i64 6]):=VHas.gr hcs hg9 (fun x e=>by cases e;exact hD3.cur.typed) (by decide);have hTc:∀ x,some c=some x->aG _ x 83:=fun x e=>by cases e;exact hD3.cur.typed
    replace v4:NdB w6 b4 n ⟨lo,lc,vo,vc,no,nc,mo,mc⟩:=VHas.gr v4 hg9 hTc (by decide);replace hO:=hO.gr hg9 hTc (by decide) (by decide);have hD4:=hD3.rd hc9 hg9;clear hc9 hg9 hTc
    obtain⟨xv,hxv⟩:∃ xv:Int,w6.cell? ⟨w5.heap.size,y,none⟩=some (.int .i64 xv):=by
     have hyy:y=0\/y=1\/y=2\/y=3:=by omega
     rcases hyy with rfl|rfl|rfl|rfl
     ·exact⟨_,VHas.cell hcs (j:=0) (by omega)⟩
     ·exact⟨_,VHas.cell hcs (j:=1) (by omega)⟩
     ·exact⟨_,VHas.cell hcs (j:=2) (by omega)⟩
     ·exact⟨_,VHas.cell hcs (j:=3) (by omega)⟩
    have hy0:(0:Int)<=(y:Int):=by omega
    clear hcs
    go_wp2_with (first|((with_reducible refine wN 2 (.tmp 35) (.tmp 34) (b4) 1 (.int .i64 xv) ((⟨n.id,xv,n.term,n.vote,n.log,n.role,n.commit,n.votes,n.next,n.mat⟩:Nd)) (⟨lo,lc,vo,vc,no,nc,mo,mc⟩) v4 ?_);intro WX vX gX)|fail)
    go_meet
    case rel=>exact⟨hD4.put gX (fun x e=>by cases e;exact hw4),(⟨n.id,xv,n.term,n.vote,n.log,n.role,n.commit,n.votes,n.next,n.mat⟩:Nd),⟨lo,lc,vo,vc,no,nc,mo,mc⟩,vX,(have oX:=hO.gr gX (bA v4) (by decide) (by decide);⟨oX.l,oX.v,oX.x,oX.m,oX.vx,oX.vm,oX.xm⟩),⟨hzz.l,hzz.v,hzz.x,hzz.m,hzz.lc,hzz.vc,hzz.xc,hzz.mc,hzz.tx⟩,GdW.of (fun hr=>(hk.z hr).1)⟩
   ·have hal:=ra w5 (.cells #[.int .i64 (-1),.int .i64 0,.int .i64 100000,.int .i64 100001] 2)
    replace hD3:=hD3.next hal;replace v4:NdB (w5.alloc (.cells #[.int .i64 (-1),.int .i64 0,.int .i64 100000,.int .i64 100001] 2)) b4 n ⟨lo,lc,vo,vc,no,nc,mo,mc⟩:=vn v4 hal;replace hO:=hO.next hal;have hcs:VHas (w5.alloc (.cells #[.int .i64 (-1),.int .i64 0,.int .i64 100000,.int .i64 100001] 2)) w5.heap.size 2 4 (lf [.int .i64 (-1),.int .i64 0,.int .i64 100000,.int .i64 100001]):=bH w5 [.int .i64 (-1),.int .i64 0,.int .i64 100000,.int .i64 100001] 2;clear hal
    go_wp2_with fail
    refine (aI base c bo bn bc 4 (by omega) (by omega) _ hD3.cur).mono ?_;rintro e w6 ⟨y,rfl,hy,hc9,hg9⟩;replace hcs:VHas w6 w5.heap.size 2 4 (lf [.int .i64 (-1),.int .i64 0,.int .i64 100000,.int .i64 100001]):=VHas.gr hcs hg9 (fun x e=>by cases e;exact hD3.cur.typed) (by decide);have hTc:∀ x,some c=some x->aG _ x 83:=fun x e=>by cases e;exact hD3.cur.typed
    replace v4:NdB w6 b4 n ⟨lo,lc,vo,vc,no,nc,mo,mc⟩:=VHas.gr v4 hg9 hTc (by decide);replace hO:=hO.gr hg9 hTc (by decide) (by decide);have hD4:=hD3.rd hc9 hg9;clear hc9 hg9 hTc
    obtain⟨xv,hxv⟩:∃ xv:Int,w6.cell? ⟨w5.heap.size,y,none⟩=some (.int .i64 xv):=by
     have hyy:y=0\/y=1\/y=2\/y=3:=by omega
     rcases hyy with rfl|rfl|rfl|rfl
     ·exact⟨_,VHas.cell hcs (j:=0) (by omega)⟩
     ·exact⟨_,VHas.cell hcs (j:=1) (by omega)⟩
     ·exact⟨_,VHas.cell hcs (j:=2) (by omega)⟩
     ·exact⟨_,VHas.cell hcs (j:=3) (by omega)⟩
    have hy0:(0:Int)<=(y:Int):=by omega
    clear hcs
    go_wp2_with (first|((with_reducible refine wN 2 (.tmp 43) (.tmp 42) (b4) 2 (.int .i64 xv) ((⟨n.id,n.peers,xv,n.vote,n.log,n.role,n.commit,n.votes,n.next,n.mat⟩:Nd)) (⟨lo,lc,vo,vc,no,nc,mo,mc⟩) v4 ?_);intro WX vX gX)|fail)
    go_meet
    case rel=>exact⟨hD4.put gX (fun x e=>by cases e;exact hw4),(⟨n.id,n.peers,xv,n.vote,n.log,n.role,n.commit,n.votes,n.next,n.mat⟩:Nd),⟨lo,lc,vo,vc,no,nc,mo,mc⟩,vX,(have oX:=hO.gr gX (bA v4) (by decide) (by decide);⟨oX.l,oX.v,oX.x,oX.m,oX.vx,oX.vm,oX.xm⟩),⟨hzz.l,hzz.v,hzz.x,hzz.m,hzz.lc,hzz.vc,hzz.xc,hzz.mc,hzz.tx⟩,GdW.tm (fun hr=>(hk.z hr).2)⟩
   ·have hal:=ra w5 (.cells #[.int .i64 (-2),.int .i64 (-1),.int .i64 5,.int .i64 1] 2)
    replace hD3:=hD3.next hal;replace v4:NdB (w5.alloc (.cells #[.int .i64 (-2),.int .i64 (-1),.int .i64 5,.int .i64 1] 2)) b4 n ⟨lo,lc,vo,vc,no,nc,mo,mc⟩:=vn v4 hal;replace hO:=hO.next hal;have hcs:VHas (w5.alloc (.cells #[.int .i64 (-2),.int .i64 (-1),.int .i64 5,.int .i64 1] 2)) w5.heap.size 2 4 (lf [.int .i64 (-2),.int .i64 (-1),.int .i64 5,.int .i64 1]):=bH w5 [.int .i64 (-2),.int .i64 (-1),.int .i64 5,.int .i64 1] 2;clear hal
    go_wp2_with fail
    refine (aI base c bo bn bc 4 (by omega) (by omega) _ hD3.cur).mono ?_;rintro e w6 ⟨y,rfl,hy,hc9,hg9⟩;replace hcs:VHas w6 w5.heap.size 2 4 (lf [.int .i64 (-2),.int .i64 (-1),.int .i64 5,.int .i64 1]):=VHas.gr hcs hg9 (fun x e=>by cases e;exact hD3.cur.typed) (by decide);have hTc:∀ x,some c=some x->aG _ x 83:=fun x e=>by cases e;exact hD3.cur.typed
    replace v4:NdB w6 b4 n ⟨lo,lc,vo,vc,no,nc,mo,mc⟩:=VHas.gr v4 hg9 hTc (by decide);replace hO:=hO.gr hg9 hTc (by decide) (by decide);have hD4:=hD3.rd hc9 hg9;clear hc9 hg9 hTc
    obtain⟨xv,hxv⟩:∃ xv:Int,w6.cell? ⟨w5.heap.size,y,none⟩=some (.int .i64 xv):=by
     have hyy:y=0\/y=1\/y=2\/y=3:=by omega
     rcases hyy with rfl|rfl|rfl|rfl
     ·exact⟨_,VHas.cell hcs (j:=0) (by omega)⟩
     ·exact⟨_,VHas.cell hcs (j:=1) (by omega)⟩
     ·exact⟨_,VHas.cell hcs (j:=2) (by omega)⟩
     ·exact⟨_,VHas.cell hcs (j:=3) (by omega)⟩
    have hy0:(0:Int)<=(y:Int):=by omega
    clear hcs
    go_wp2_with (first|((with_reducible refine wN 2 (.tmp 51) (.tmp 50) (b4) 3 (.int .i64 xv) ((⟨n.id,n.peers,n.term,xv,n.log,n.role,n.commit,n.votes,n.next,n.mat⟩:Nd)) (⟨lo,lc,vo,vc,no,nc,mo,mc⟩) v4 ?_);intro WX vX gX)|fail)
    go_meet
    case rel=>exact⟨hD4.put gX (fun x e=>by cases e;exact hw4),(⟨n.id,n.peers,n.term,xv,n.log,n.role,n.commit,n.votes,n.next,n.mat⟩:Nd),⟨lo,lc,vo,vc,no,nc,mo,mc⟩,vX,(have oX:=hO.gr gX (bA v4) (by decide) (by decide);⟨oX.l,oX.v,oX.x,oX.m,oX.vx,oX.vm,oX.xm⟩),⟨hzz.l,hzz.v,hzz.x,hzz.m,hzz.lc,hzz.vc,hzz.xc,hzz.mc,hzz.tx⟩,GdW.of (fun hr=>(hk.z hr).1)⟩
   ·go_wp2_with fail
    refine (nF base c bo bn bc _ hD3.cur).mono ?_;rintro e w6 ⟨lo2,k2,lc2,rfl,hk2,hOE,hc9,hg9⟩;have hsz5:w.heap.size+1<=w5.heap.size:=hD3.res.lt;have hTc:∀ x,some c=some x->aG _ x 83:=fun x e=>by cases e;exact hD3.cur.typed
    replace v4:NdB w6 b4 n ⟨lo,lc,vo,vc,no,nc,mo,mc⟩:=VHas.gr v4 hg9 hTc (by decide);replace hO:=hO.gr hg9 hTc (by decide) (by decide);have hD4:=hD3.rd hc9 hg9;clear hc9 hg9 hTc
    obtain⟨L,eL,hOw,hTx⟩:∃ L:List En,k2=L.length/\OwE w6 (w.heap.size+1) lo2 lc2 L/\TxL L:=by
     obtain⟨T,X,hX,hrow,_⟩:=hOE;refine⟨jW k2 T X,(dO _ _ _).symm,?_,fun j hj=>?_⟩
     ·have h1:GOwn w6 w5.heap.size 47 2 lo2 k2 lc2 (nr T X):=hrow
      have h2:=GOwn.congr h1 (fun j hj=>(rF k2 T X j hj).symm)
      show GOwn w6 (w.heap.size+1) 47 2 lo2 (jW k2 T X).length lc2 (lf (dZ (jW k2 T X)))
      rw[dO];exact GOwn.from h2 hsz5
     ·rw[dO]at hj
      rw[rO hj];exact Nat.le_trans (hX j hj) (by omega)
    subst eL;clear hOE
    go_wp2_with (first|((with_reducible refine wN 24 (.tmp 56) (.tmp 55) (b4) 4 (.slice lo2 L.length lc2) ((⟨n.id,n.peers,n.term,n.vote,L,n.role,n.commit,n.votes,n.next,n.mat⟩:Nd)) (⟨lo2,lc2,vo,vc,no,nc,mo,mc⟩) v4 ?_);intro WX vX gX)|fail)
    go_meet
    case rel=>exact⟨hD4.put gX (fun x e=>by cases e;exact hw4),(⟨n.id,n.peers,n.term,n.vote,L,n.role,n.commit,n.votes,n.next,n.mat⟩:Nd),⟨lo2,lc2,vo,vc,no,nc,mo,mc⟩,vX,(have oX:=hO.gr gX (bA v4) (by decide) (by decide);⟨hOw.gr gX (bA v4) (by decide),oX.v,oX.x,oX.m,oX.vx,oX.vm,oX.xm⟩),⟨by show L.length<=1048576;omega,hzz.v,hzz.x,hzz.m,GOwn.cap hOw,hzz.vc,hzz.xc,hzz.mc,hTx⟩,GdW.of (fun hr=>(hk.z hr).1)⟩
   ·go_wp2_with fail
    refine (pO 0 5 (by omega) (by omega) base c bo bn bc _ hD3.cur).mono ?_;rintro e w6 ⟨xv,rfl,hx5,hc9,hg9⟩;have hTc:∀ x,some c=some x->aG _ x 83:=fun x e=>by cases e;exact hD3.cur.typed
    replace v4:NdB w6 b4 n ⟨lo,lc,vo,vc,no,nc,mo,mc⟩:=VHas.gr v4 hg9 hTc (by decide);replace hO:=hO.gr hg9 hTc (by decide) (by decide);have hD4:=hD3.rd hc9 hg9;clear hc9 hg9 hTc
    have hgd:GdW (⟨n.id,n.peers,n.term,n.vote,n.log,xv,n.commit,n.votes,n.next,n.mat⟩:Nd):=by
     by_cases hr:n.role=3
     ·exact GdW.of (fun _=>(hk.z hr).1)
     ·exact GdW.ro (fun _=>hk.nx hr)
    go_wp2_with (first|((with_reducible refine wN 2 (.tmp 61) (.tmp 60) (b4) 5 (.int .i64 xv) ((⟨n.id,n.peers,n.term,n.vote,n.log,xv,n.commit,n.votes,n.next,n.mat⟩:Nd)) (⟨lo,lc,vo,vc,no,nc,mo,mc⟩) v4 ?_);intro WX vX gX)|fail)
    go_meet
    case rel=>exact⟨hD4.put gX (fun x e=>by cases e;exact hw4),(⟨n.id,n.peers,n.term,n.vote,n.log,xv,n.commit,n.votes,n.next,n.mat⟩:Nd),⟨lo,lc,vo,vc,no,nc,mo,mc⟩,vX,(have oX:=hO.gr gX (bA v4) (by decide) (by decide);⟨oX.l,oX.v,oX.x,oX.m,oX.vx,oX.vm,oX.xm⟩),⟨hzz.l,hzz.v,hzz.x,hzz.m,hzz.lc,hzz.vc,hzz.xc,hzz.mc,hzz.tx⟩,hgd⟩
   ·go_wp2_with fail
    have hd:RB w5 w5.drew:=(Below.refl _ _).drew;have hN:∀ W',RD base c bo bn bc w5.drew W'->NdB W' b4 n ⟨lo,lc,vo,vc,no,nc,mo,mc⟩:=fun W' h=>VHas.gr (vn v4 hd) h.1 (fun x e=>by cases e;exact (hD3.next hd).cur.typed) (by decide)
    have hOO:∀ W',RD base c bo bn bc w5.drew W'->NdO W' (w.heap.size+1) n ⟨lo,lc,vo,vc,no,nc,mo,mc⟩:=fun W' h=>(hO.next hd).gr h.1 (fun x e=>by cases e;exact (hD3.next hd).cur.typed) (by decide) (by decide)
    have hDD:∀ W',RD base c bo bn bc w5.drew W'->DNa w base c bo bn bc W':=fun W' h=>(hD3.next hd).rd (h.2 (hD3.next hd).cur) h.1
    clear hd;have hcm:=hk.b.c;have hw66:IntKind.i64.wrap (n.commit+1)=(n.commit+1):=wi
    refine bW (by kernel_rfl) (by kernel_rfl) (by kernel_rfl) (RD base c bo bn bc) RD.refl RD.trans
     [isV (.pointer (some ⟨b4,6,none⟩)),isV (.int .i64 n.commit),isV (.int .i64 (n.commit+1)),isV (.pointer (some ⟨b4,4,none⟩)),isV (.slice lo n.log.length lc),isV (.int .i64 (n.log.length:Int)),L3x c,isV (.pointer (some ⟨c,0,none⟩)),IxV 3,P3x c,IvV,isV (.pointer (some ⟨b4,6,none⟩))]
     ⟨isV.rd,isV.rd,isV.rd,isV.rd,isV.rd,isV.rd,L3x.rd,isV.rd,IxV.rd,P3x.rd,IvV.rd,isV.rd,trivial⟩ rfl ?_ _ rfl rfl rfl
     (fun v9 W9=>DNa w base c bo bn bc W9/\FI W9 b4 (w.heap.size+1)) ?_ ?_
    ·simp only[List.size_toArray,List.length_cons,List.length_nil,Nat.reduceAdd,Nat.reduceSub,List.take_succ_cons,List.take_zero]
     refine⟨?_,?_,?_,?_,?_,?_,?_,?_,?_,?_,?_,?_,trivial⟩
     ·exact OpOk.get RD.refl _ (fun _=>rfl) fun ev w9 v hR E pr=>by
       have e1:=E.was 4 _;simp[go_sem,e1]
     ·exact OpOk.get RD.refl _ (fun _=>rfl) fun ev w9 v hR E pr=>by
       have e1:=E.eq pr 0 64;have cc:=VHas.cell (hN w9 hR) (j:=6) (by omega);simp[lf]at cc;simp[go_sem,cc,e1]
     ·exact OpOk.get RD.refl _ (fun _=>rfl) fun ev w9 v hR E pr=>by
       have e1:=E.eq pr 1 65;simp[go_sem,E.con,hw66,e1]
     ·exact OpOk.get RD.refl _ (fun _=>rfl) fun ev w9 v hR E pr=>by
       have e1:=E.was 4 _;simp[go_sem,e1]
     ·exact OpOk.get RD.refl _ (fun _=>rfl) fun ev w9 v hR E pr=>by
       have e1:=E.eq pr 3 67;have cc:=VHas.cell (hN w9 hR) (j:=4) (by omega);simp[lf]at cc;simp[go_sem,cc,e1]
     ·exact OpOk.get RD.refl _ (fun _=>rfl) fun ev w9 v hR E pr=>by
       have e1:=E.eq pr 4 68;simp[go_sem,e1]
     ·refine OpOk.val rfl fun ev w9 v hR E pr=>?_
      have e1:=E.eq pr 2 66;have e2:=E.eq pr 5 69;exact⟨.slice (some ⟨w9.heap.size,0,none⟩) 3 3,w9.alloc (.cells #[.int .i64 (-1),.int .i64 (n.commit+1),.int .i64 (n.log.length:Int)] 2),(by (simp[go_sem,e1,e2,E.con])<;>rfl),RD.rb (ra _ _),-1,n.commit+1,(n.log.length:Int),w9.heap.size,rfl,(by have:=(hDD w9 hR).res.lt;omega),bH w9 [.int .i64 (-1),.int .i64 (n.commit+1),.int .i64 (n.log.length:Int)] 2⟩
     ·exact OpOk.get RD.refl _ (fun _=>rfl) fun ev w9 v hR E pr=>by
       have e1:=E.was 0 _;simp[go_sem,e1]
     ·refine OpOk.call rfl fun ev w9 v hR E pr=>?_
      have e1:=E.eq pr 7 71;refine⟨27,#[.pointer (some ⟨c,0,none⟩),.int .i64 3],by simp[go_sem,e1,E.con,E.fn],?_⟩;refine (aI base c bo bn bc 3 (by omega) (by omega) w9 (hDD w9 hR).cur).mono ?_;rintro e w8 ⟨x,rfl,hx,hC8,hg8⟩;exact⟨_,rfl,⟨hg8,fun _=>hC8⟩,x,rfl,by omega⟩
     ·refine OpOk.val rfl fun ev w9 v hR E pr=>?_
      obtain⟨a1,a2,a3,D,e1,hcD,hV⟩:L3x c (ev (.tmp 70)) w9:=E.get pr 6 70;obtain⟨x,e2,hx⟩:IxV 3 (ev (.tmp 72)) w9:=E.get pr 8 72;have hx3:x=0\/x=1\/x=2:=by omega
      rcases hx3 with rfl|rfl|rfl
      ·exact⟨.pointer (some ⟨D,0,none⟩),w9,by simp[go_sem,e1,e2],RD.refl _,a1,D,0,rfl,hcD,VHas.cell hV (j:=0) (by omega)⟩
      ·exact⟨.pointer (some ⟨D,1,none⟩),w9,by simp[go_sem,e1,e2],RD.refl _,a2,D,1,rfl,hcD,VHas.cell hV (j:=1) (by omega)⟩
      ·exact⟨.pointer (some ⟨D,2,none⟩),w9,by simp[go_sem,e1,e2],RD.refl _,a3,D,2,rfl,hcD,VHas.cell hV (j:=2) (by omega)⟩
     ·refine OpOk.val rfl fun ev w9 v hR E pr=>?_
      obtain⟨x,D,k,e1,hcD,hc⟩:P3x c (ev (.tmp 73)) w9:=E.get pr 9 73;exact⟨.int .i64 x,w9,by simp[go_sem,e1,hc],RD.refl _,x,rfl⟩
     ·exact OpOk.get RD.refl _ (fun _=>rfl) fun ev w9 v hR E pr=>by
       have e1:=E.was 4 _;simp[go_sem,e1]
    ·intro ev w9 v hR E hp9
     obtain⟨_,_,_,_,_,_,_,_,_,_,p10,p11,_⟩:=hp9;have E1:=E.at_ 11 75 rfl (by kernel_rfl) (nb (by kernel_rfl));have E2:=E.at_ 10 74 rfl (by kernel_rfl) (nb (by kernel_rfl));obtain⟨xv,e10⟩:IvV (v 10) w9:=p10;rw[p11]at E1;rw[e10]at E2;have vN:=hN w9 hR;have g9:=aC w9 b4 6 (.int .i64 xv);have oX:=(hOO w9 hR).gr g9 (bA vN) (by decide) (by decide);exact⟨_,cI rfl E1 E2 vN (by omega) (by kernel_rfl) rfl (dT rfl),(hDD w9 hR).put g9 (fun x e=>by cases e;exact hw4),(⟨n.id,n.peers,n.term,n.vote,n.log,n.role,xv,n.votes,n.next,n.mat⟩:Nd),⟨lo,lc,vo,vc,no,nc,mo,mc⟩,NdB.put vN 6 (by omega) _ rfl,⟨oX.l,oX.v,oX.x,oX.m,oX.vx,oX.vm,oX.xm⟩,⟨hzz.l,hzz.v,hzz.x,hzz.m,hzz.lc,hzz.vc,hzz.xc,hzz.mc,hzz.tx⟩,GdW.of (fun hr=>(hk.z hr).1)⟩
    ·intro v9 W9 hF9
     simp only[List.size_toArray,List.length_cons,List.length_nil,Nat.reduceAdd,Nat.reduceSub,List.take_succ_cons,List.take_zero,bF,Nat.zero_add,Act.put,sY,sZ,ss];obtain⟨hD9,hN9⟩:=hF9;clear hN hOO hDD;go_wp2
     go_meet
     case rel=>exact⟨hD9,hN9⟩
   ·go_wp2_with fail
    have hd:RB w5 w5.drew:=(Below.refl _ _).drew;have hN:∀ W',RD base c bo bn bc w5.drew W'->NdB W' b4 n ⟨lo,lc,vo,vc,no,nc,mo,mc⟩:=fun W' h=>VHas.gr (vn v4 hd) h.1 (fun x e=>by cases e;exact (hD3.next hd).cur.typed) (by decide)
    have hOO:∀ W',RD base c bo bn bc w5.drew W'->NdO W' (w.heap.size+1) n ⟨lo,lc,vo,vc,no,nc,mo,mc⟩:=fun W' h=>(hO.next hd).gr h.1 (fun x e=>by cases e;exact (hD3.next hd).cur.typed) (by decide) (by decide)
    have hDD:∀ W',RD base c bo bn bc w5.drew W'->DNa w base c bo bn bc W':=fun W' h=>(hD3.next hd).rd (h.2 (hD3.next hd).cur) h.1
    clear hd
    refine mY (by kernel_rfl) (by kernel_rfl) (by kernel_rfl) (RD base c bo bn bc) RD.refl RD.trans 5 [0,1,2,3,4] [6] (by kernel_rfl) (by kernel_rfl) (fun _ _=>True)
     (fun W5=>DNa w base c bo bn bc W5/\NdB W5 b4 n ⟨lo,lc,vo,vc,no,nc,mo,mc⟩/\OwE W5 (w.heap.size+1) lo lc n.log/\OwI W5 (w.heap.size+1) no nc n.next/\OwI W5 (w.heap.size+1) mo mc n.mat)
     (fun a9 b9 h hb=>⟨h.1.rd (hb.2 h.1.cur) hb.1,VHas.gr h.2.1 hb.1 (fun x e=>by cases e;exact h.1.cur.typed) (by decide),h.2.2.1.gr hb.1 (fun x e=>by cases e;exact h.1.cur.typed) (by decide),h.2.2.2.1.gr hb.1 (fun x e=>by cases e;exact h.1.cur.typed) (by decide),h.2.2.2.2.gr hb.1 (fun x e=>by cases e;exact h.1.cur.typed) (by decide)⟩)
     [isV (.pointer (some ⟨b4,7,none⟩)),isV (.slice vo n.votes.length vc),isV (.pointer (some ⟨c,0,none⟩)),IvV,L1x c,LaV (w.heap.size+1) n.votes no mo,isV (.pointer (some ⟨b4,7,none⟩))]
     ⟨isV.rd,isV.rd,isV.rd,IvV.rd,L1x.rd,(LaV.rd hcB),isV.rd,trivial⟩ rfl ?_ ?_ ?_ ?_ _ rfl rfl rfl
     (fun v9 W9=>DNa w base c bo bn bc W9/\FI W9 b4 (w.heap.size+1)) ?_ ?_
    ·intro i hi v w1 w2 h hx
     simp only[List.mem_cons,List.not_mem_nil,or_false]at hi;rcases hi with rfl
     exact h
    ·intro i hi o ho
     simp only[List.mem_cons,List.not_mem_nil,or_false]at hi;rcases hi with rfl|rfl|rfl|rfl|rfl<;>(obtain rfl:=oI ho)
     ·exact OpOk.get RD.refl _ (fun _=>rfl) fun ev w9 v hR E pr=>by
       have e1:=E.was 4 _;simp[go_sem,e1]
     ·exact OpOk.get RD.refl _ (fun _=>rfl) fun ev w9 v hR E pr=>by
       have e1:=E.eq pr 0 78;have cc:=VHas.cell (hN w9 hR) (j:=7) (by omega);simp[lf]at cc;simp[go_sem,cc,e1]
     ·exact OpOk.get RD.refl _ (fun _=>rfl) fun ev w9 v hR E pr=>by
       have e1:=E.was 0 _;simp[go_sem,e1]
     ·refine OpOk.call rfl fun ev w9 v hR E pr=>?_
      have e1:=E.eq pr 2 80;refine⟨68,#[.pointer (some ⟨c,0,none⟩),.int .i64 (-1),.int .i64 5],by simp[go_sem,e1,E.con,E.fn],?_⟩;refine (pO (-1) 5 (by omega) (by omega) base c bo bn bc w9 (hDD w9 hR).cur).mono ?_;rintro e w8 ⟨x,rfl,_,hC8,hg8⟩;exact⟨_,rfl,⟨hg8,fun _=>hC8⟩,x,rfl⟩
     ·refine OpOk.val rfl fun ev w9 v hR E pr=>?_
      obtain⟨x,e1⟩:IvV (ev (.tmp 81)) w9:=E.get pr 3 81;exact⟨.slice (some ⟨w9.heap.size,0,none⟩) 1 1,w9.alloc (.cells #[.int .i64 x] 2),(by (simp[go_sem,e1])<;>rfl),RD.rb (ra _ _),x,w9.heap.size,rfl,(by have:=(hDD w9 hR).res.lt;omega),bH w9 [.int .i64 x] 2⟩
    ·intro i h1 h2 h3 o ho
     have hc3:i=6:=by
      simp at h1 h3;omega
     subst hc3;obtain rfl:=oI ho
     exact LateOkR.get RD.refl _ (fun _=>rfl) fun ev w9 v hR E pr=>by
       have e1:=E.was 4 _;simp[go_sem,e1]
    ·intro o ho
     obtain rfl:=oI ho;refine MidOkR.val fun ev w9 v hR E pr=>?_
     have e1:=E.eq pr 1 79;have e2:L1x c (ev (.tmp 82)) w9:=E.get pr 4 82;have o9:=hOO w9 hR;have vN:=hN w9 hR;refine iY (M6 rfl e1 o9.v e2 (by omega) ((hDD w9 hR).res.lt) o9.x o9.m (fun z e=>hO.vx z e) (fun z e=>hO.vm z e)) ?_;rintro u w8 ⟨hu,hg⟩;have hT:∀ z,dI vo=some z->aG w9 z 2:=fun z e=>GOwn.typed o9.v (x:=z) (by rw[bK];exact e)
     exact⟨trivial,⟨(hDD w9 hR).put hg (fun z e=>(OwI.at o9.v e).1),VHas.gr vN hg hT (by decide),o9.l.gr hg hT (by decide),OwI.apartO o9.x hg (fun z e=>hO.vx z e),OwI.apartO o9.m hg (fun z e=>hO.vm z e)⟩,hu⟩
    ·rintro ev w9 v ⟨hP1,vN,oL,o1,o2⟩ E hk9
     have k1:=hk9 6 (by simp);have k2:=hk9 5 (by simp);have E1:=E.at_ 6 84 rfl (by kernel_rfl) (nb (by kernel_rfl));have E2:=E.at_ 5 83 rfl (by kernel_rfl) (nb (by kernel_rfl));obtain⟨xv,a,c2,e5,h5,h6⟩:LaV (w.heap.size+1) n.votes no mo (v 5) w9:=k2;have e6:v 6=.pointer (some ⟨b4,7,none⟩):=k1;rw[e6]at E1;rw[e5]at E2;have g9:=aC w9 b4 7 (.slice a (n.votes++[xv]).length c2);exact⟨_,cI rfl E1 E2 vN (by omega) (by kernel_rfl) rfl (dT rfl),fun _ _=>⟨hP1.put g9 (fun x e=>by cases e;exact hw4),(⟨n.id,n.peers,n.term,n.vote,n.log,n.role,n.commit,n.votes++[xv],n.next,n.mat⟩:Nd),⟨lo,lc,a,c2,no,nc,mo,mc⟩,NdB.put vN 7 (by omega) _ rfl,⟨oL.gr g9 (bA vN) (by decide),h5.gr g9 (bA vN) (by decide),o1.gr g9 (bA vN) (by decide),o2.gr g9 (bA vN) (by decide),fun z e=>(h6 z e).1,fun z e=>(h6 z e).2,hO.xm⟩,⟨hzz.l,by simp;omega,hzz.x,hzz.m,hzz.lc,GOwn.cap h5,hzz.xc,hzz.mc,hzz.tx⟩,GdW.of (fun hr=>(hk.z hr).1)⟩⟩
    ·intro v9 W9 hF9
     simp only[bF,Nat.zero_add,Nat.reduceAdd,Act.put,sY,sZ,ss];obtain⟨hD9,hN9⟩:=hF9;clear hN hOO hDD;go_wp2
     go_meet
     case rel=>exact⟨hD9,hN9⟩
   ·go_wp2_with fail
    have hd:RB w5 w5.drew:=(Below.refl _ _).drew;have hN:∀ W',RD base c bo bn bc w5.drew W'->NdB W' b4 n ⟨lo,lc,vo,vc,no,nc,mo,mc⟩:=fun W' h=>VHas.gr (vn v4 hd) h.1 (fun x e=>by cases e;exact (hD3.next hd).cur.typed) (by decide)
    have hOO:∀ W',RD base c bo bn bc w5.drew W'->NdO W' (w.heap.size+1) n ⟨lo,lc,vo,vc,no,nc,mo,mc⟩:=fun W' h=>(hO.next hd).gr h.1 (fun x e=>by cases e;exact (hD3.next hd).cur.typed) (by decide) (by decide)
    have hDD:∀ W',RD base c bo bn bc w5.drew W'->DNa w base c bo bn bc W':=fun W' h=>(hD3.next hd).rd (h.2 (hD3.next hd).cur) h.1
    clear hd
    refine mY (by kernel_rfl) (by kernel_rfl) (by kernel_rfl) (RD base c bo bn bc) RD.refl RD.trans 5 [0,1,2,3,4] [6] (by kernel_rfl) (by kernel_rfl) (fun _ _=>True)
     (fun W5=>DNa w base c bo bn bc W5/\NdB W5 b4 n ⟨lo,lc,vo,vc,no,nc,mo,mc⟩/\OwE W5 (w.heap.size+1) lo lc n.log/\OwI W5 (w.heap.size+1) vo vc n.votes/\OwI W5 (w.heap.size+1) mo mc n.mat)
     (fun a9 b9 h hb=>⟨h.1.rd (hb.2 h.1.cur) hb.1,VHas.gr h.2.1 hb.1 (fun x e=>by cases e;exact h.1.cur.typed) (by decide),h.2.2.1.gr hb.1 (fun x e=>by cases e;exact h.1.cur.typed) (by decide),h.2.2.2.1.gr hb.1 (fun x e=>by cases e;exact h.1.cur.typed) (by decide),h.2.2.2.2.gr hb.1 (fun x e=>by cases e;exact h.1.cur.typed) (by decide)⟩)
     [isV (.pointer (some ⟨b4,8,none⟩)),isV (.slice no n.next.length nc),isV (.pointer (some ⟨c,0,none⟩)),IvV,L1x c,LaV (w.heap.size+1) n.next vo mo,isV (.pointer (some ⟨b4,8,none⟩))]
     ⟨isV.rd,isV.rd,isV.rd,IvV.rd,L1x.rd,(LaV.rd hcB),isV.rd,trivial⟩ rfl ?_ ?_ ?_ ?_ _ rfl rfl rfl
     (fun v9 W9=>DNa w base c bo bn bc W9/\FI W9 b4 (w.heap.size+1)) ?_ ?_
    ·intro i hi v w1 w2 h hx
     simp only[List.mem_cons,List.not_mem_nil,or_false]at hi;rcases hi with rfl
     exact h
    ·intro i hi o ho
     simp only[List.mem_cons,List.not_mem_nil,or_false]at hi;rcases hi with rfl|rfl|rfl|rfl|rfl<;>(obtain rfl:=oI ho)
     ·exact OpOk.get RD.refl _ (fun _=>rfl) fun ev w9 v hR E pr=>by
       have e1:=E.was 4 _;simp[go_sem,e1]
     ·exact OpOk.get RD.refl _ (fun _=>rfl) fun ev w9 v hR E pr=>by
       have e1:=E.eq pr 0 87;have cc:=VHas.cell (hN w9 hR) (j:=8) (by omega);simp[lf]at cc;simp[go_sem,cc,e1]
     ·exact OpOk.get RD.refl _ (fun _=>rfl) fun ev w9 v hR E pr=>by
       have e1:=E.was 0 _;simp[go_sem,e1]
     ·refine OpOk.call rfl fun ev w9 v hR E pr=>?_
      have e1:=E.eq pr 2 89;refine⟨68,#[.pointer (some ⟨c,0,none⟩),.int .i64 (-1),.int .i64 5],by simp[go_sem,e1,E.con,E.fn],?_⟩;refine (pO (-1) 5 (by omega) (by omega) base c bo bn bc w9 (hDD w9 hR).cur).mono ?_;rintro e w8 ⟨x,rfl,_,hC8,hg8⟩;exact⟨_,rfl,⟨hg8,fun _=>hC8⟩,x,rfl⟩
     ·refine OpOk.val rfl fun ev w9 v hR E pr=>?_
      obtain⟨x,e1⟩:IvV (ev (.tmp 90)) w9:=E.get pr 3 90;exact⟨.slice (some ⟨w9.heap.size,0,none⟩) 1 1,w9.alloc (.cells #[.int .i64 x] 2),(by (simp[go_sem,e1])<;>rfl),RD.rb (ra _ _),x,w9.heap.size,rfl,(by have:=(hDD w9 hR).res.lt;omega),bH w9 [.int .i64 x] 2⟩
    ·intro i h1 h2 h3 o ho
     have hc3:i=6:=by
      simp at h1 h3;omega
     subst hc3;obtain rfl:=oI ho
     exact LateOkR.get RD.refl _ (fun _=>rfl) fun ev w9 v hR E pr=>by
       have e1:=E.was 4 _;simp[go_sem,e1]
    ·intro o ho
     obtain rfl:=oI ho;refine MidOkR.val fun ev w9 v hR E pr=>?_
     have e1:=E.eq pr 1 88;have e2:L1x c (ev (.tmp 91)) w9:=E.get pr 4 91;have o9:=hOO w9 hR;have vN:=hN w9 hR;refine iY (M6 rfl e1 o9.x e2 (by omega) ((hDD w9 hR).res.lt) o9.v o9.m (fun z e=>fun q=>hO.vx z q e) (fun z e=>hO.xm z e)) ?_;rintro u w8 ⟨hu,hg⟩;have hT:∀ z,dI no=some z->aG w9 z 2:=fun z e=>GOwn.typed o9.x (x:=z) (by rw[bK];exact e)
     exact⟨trivial,⟨(hDD w9 hR).put hg (fun z e=>(OwI.at o9.x e).1),VHas.gr vN hg hT (by decide),o9.l.gr hg hT (by decide),OwI.apartO o9.v hg (fun z e=>fun q=>hO.vx z q e),OwI.apartO o9.m hg (fun z e=>hO.xm z e)⟩,hu⟩
    ·rintro ev w9 v ⟨hP1,vN,oL,o1,o2⟩ E hk9
     have k1:=hk9 6 (by simp);have k2:=hk9 5 (by simp);have E1:=E.at_ 6 93 rfl (by kernel_rfl) (nb (by kernel_rfl));have E2:=E.at_ 5 92 rfl (by kernel_rfl) (nb (by kernel_rfl));obtain⟨xv,a,c2,e5,h5,h6⟩:LaV (w.heap.size+1) n.next vo mo (v 5) w9:=k2;have e6:v 6=.pointer (some ⟨b4,8,none⟩):=k1;rw[e6]at E1;rw[e5]at E2;have g9:=aC w9 b4 8 (.slice a (n.next++[xv]).length c2);exact⟨_,cI rfl E1 E2 vN (by omega) (by kernel_rfl) rfl (dT rfl),fun _ _=>⟨hP1.put g9 (fun x e=>by cases e;exact hw4),(⟨n.id,n.peers,n.term,n.vote,n.log,n.role,n.commit,n.votes,n.next++[xv],n.mat⟩:Nd),⟨lo,lc,vo,vc,a,c2,mo,mc⟩,NdB.put vN 8 (by omega) _ rfl,⟨oL.gr g9 (bA vN) (by decide),o1.gr g9 (bA vN) (by decide),h5.gr g9 (bA vN) (by decide),o2.gr g9 (bA vN) (by decide),fun z e q=>(h6 z q).1 e,hO.vm,fun z e=>(h6 z e).2⟩,⟨hzz.l,hzz.v,by simp;omega,hzz.m,hzz.lc,hzz.vc,GOwn.cap h5,hzz.mc,hzz.tx⟩,GdW.of (fun hr=>(hk.z hr).1)⟩⟩
    ·intro v9 W9 hF9
     simp only[bF,Nat.zero_add,Nat.reduceAdd,Act.put,sY,sZ,ss];obtain⟨hD9,hN9⟩:=hF9;clear hN hOO hDD;go_wp2
     go_meet
     case rel=>exact⟨hD9,hN9⟩
  case rest=>
   obtain⟨hD2,n2,s2,v5,hO2,hz2,hg2⟩:=hcut;clear hD1 v4 hO hzz hk htx hfew;refine hK1 _ _ ?_;clear hK1;obtain⟨lo,lc,vo,vc,no,nc,mo,mc⟩:=s2;obtain⟨f0,f1,f2,f3,f4,f5,f6,f7,f8,f9⟩:=cN v5;have vR:=hD2.res
   go_wp2_with (first|((with_reducible refine wB 27 (.tmp 2) (.tmp 94) (w.heap.size) (aJ (n2) (⟨lo,lc,vo,vc,no,nc,mo,mc⟩)) vR ?_);intro W9 hv9 hg9)|fail)
   clear f0 f1 f2 f3 f4 f5 f6 f7 f8 f9;obtain⟨q0,q1,q2,q3,q4,q5,q6,q7,q8,q9⟩:=cN hv9;have hgr:=hD2.gr;have hge:=hD2.cur.ge;have hlt:=hD2.lt;exact bodyPost_ret (v:=aX n2 ⟨lo,lc,vo,vc,no,nc,mo,mc⟩) (by simp[results,Tryz.results28,go_sem,q0,q1,q2,q3,q4,q5,q6,q7,q8,q9]) rfl ⟨n2,⟨lo,lc,vo,vc,no,nc,mo,mc⟩,rfl,(hO2.gr hg9 (bA vR) (by decide) (by decide)).from (by omega),hz2,hg2,hD2.cur.grown hg9 (by omega) (by omega),⟨hg9.os.trans hgr.os,hg9.tape.trans hgr.tape,hg9.output.trans hgr.output,Nat.le_trans hgr.size hg9.size,fun k hk hc=>(hg9.block k (Nat.lt_of_lt_of_le hk hgr.size) (fun e=>by have:=oI e;omega)).trans (hgr.block k hk hc)⟩⟩
end
end Go.Proofs.YtbabakgjkloabaaGreatDoor
