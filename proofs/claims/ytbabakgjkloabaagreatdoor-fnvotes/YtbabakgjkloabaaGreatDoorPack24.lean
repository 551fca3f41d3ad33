/-
  Helpers: Dop, Do1, Do2.
-/
import Derived.Test.YtbabakgjkloabaaGreatDoorPack23
set_option linter.unusedVariables false
set_option linter.unusedSimpArgs false
set_option maxRecDepth 100000
set_option maxHeartbeats 16000000
namespace Go.Proofs.YtbabakgjkloabaaGreatDoor
section
open Go Go.RowKit
attribute [local go_sem ↓] Go.wp_at_zero Go.wp_at_succ
def RD(base c:Nat)(bo:Option Addr)(bn bc:Nat)(u v:World):Prop:=u.grownBy v (some c)/\(CurAt u base c bo bn bc->CurAt v base c bo bn bc)
def OpB(W:World)(b:Nat):Prop:=∃ (K N I:Int) (T:ByteArray),T.size<=1048576/\VHas W b 89 4 (lf [.int .i64 K,.int .i64 N,.int .i64 I,.string T])
structure DOp(w:World)(base c:Nat)(bo:Option Addr)(bn bc:Nat)(B:Nat)(l:List Nq)(ao:Option Addr)(cap nq:Nat)(eo:Option Addr)(ec:Nat)(W:World):Prop where
 cur:CurAt W base c bo bn bc
 cl:VHas W w.heap.size 54 2 (lf [.slice ao l.length cap,.slice eo nq ec])
 n:GOwn W B 27 10 ao l.length cap (lf (mX l))
 res:VHas W (w.heap.size+1) 89 4 (lf [.int .i64 0,.int .i64 0,.int .i64 0,.string (ByteArray.mk #[])])
 gr:w.grownBy W (some c)
 lt:c<w.heap.size
section
variable {w:World} {base c:Nat} {bo:Option Addr} {bn bc B:Nat} {l:List Nq} {ao:Option Addr} {cap nq:Nat} {eo:Option Addr} {ec:Nat} {W W':World}
theorem DOp.next(h:DOp w base c bo bn bc B l ao cap nq eo ec W)(hb:RB W W'):DOp w base c bo bn bc B l ao cap nq eo ec W':=⟨h.cur.next hb,vn h.cl hb,GOwn.next h.n hb,vn h.res hb,h.gr.trans (eQ hb),h.lt⟩
theorem DOp.rd(h:DOp w base c bo bn bc B l ao cap nq eo ec W)(hC:CurAt W' base c bo bn bc)(hg:W.grownBy W' (some c)):DOp w base c bo bn bc B l ao cap nq eo ec W':=
 have hl:=h.lt
 ⟨hC,VHas.grown h.cl hg (fun e=>by have:=oI e;omega),GOwn.gr h.n hg (fun x e=>by cases e;exact h.cur.typed) (by decide),VHas.grown h.res hg (fun e=>by have:=oI e;omega),h.gr.trans hg,h.lt⟩
theorem DOp.op(h:DOp w base c bo bn bc B l ao cap nq eo ec W){x:Nat}(hg:W.grownBy W' (some x))(hx:aG W x 89)(h1:w.heap.size+1<x):DOp w base c bo bn bc B l ao cap nq eo ec W':=
 have hT:∀ y,some x=some y->aG W y 89:=fun y e=>by cases e;exact hx
 have hl:=h.lt
 ⟨by
  have hc:=h.cur.typed
  exact h.cur.grown hg (by have:=h.cur.ge;omega) (by omega),VHas.gr h.cl hg hT (by decide),GOwn.gr h.n hg hT (by decide),VHas.grown h.res hg (fun e=>by have:=oI e;omega),⟨hg.os.trans h.gr.os,hg.tape.trans h.gr.tape,hg.output.trans h.gr.output,Nat.le_trans h.gr.size hg.size,fun k hk hc=>(hg.block k (Nat.lt_of_lt_of_le hk h.gr.size) (fun e=>by have:=oI e;omega)).trans (h.gr.block k hk hc)⟩,h.lt⟩
theorem OpB.next{b:Nat}(h:OpB W b)(hb:RB W W'):OpB W' b:=by
 obtain⟨K,N,I,T,h1,h2⟩:=h;exact⟨K,N,I,T,h1,vn h2 hb⟩
theorem OpB.cur{b:Nat}(h:OpB W b)(hg:W.grownBy W' (some c))(hx:aG W c 83):OpB W' b:=by
 obtain⟨K,N,I,T,h1,h2⟩:=h;exact⟨K,N,I,T,h1,VHas.gr h2 hg (fun x e=>by cases e;exact hx) (by decide)⟩
end
def IvV(v:Value)(w:World):Prop:=∃ x:Int,v=.int .i64 x
theorem IvV.rb(v:Value)(w w':World)(h:IvV v w)(hb:RB w w'):IvV v w':=h
def OvV(v:Value)(w:World):Prop:=∃ N I:Int,v=.agg #[.int .i64 0,.int .i64 N,.int .i64 I,.string (ByteArray.mk #[])]
theorem OvV.rb(v:Value)(w w':World)(h:OvV v w)(hb:RB w w'):OvV v w':=h
def BxO(H:Nat)(v:Value)(w:World):Prop:=∃ b,v=.pointer (some ⟨b,0,none⟩)/\H<=b/\OpB w b
theorem BxO.rb{H:Nat}(v:Value)(w w':World)(h:BxO H v w)(hb:RB w w'):BxO H v w':=by
 obtain⟨b,e,h1,h⟩:=h;exact⟨b,e,h1,h.next hb⟩
def EG(H:Nat)(u v:World):Prop:=∃ b,u.grownBy v (some b)/\aG u b 89/\H<=b
theorem OpB.put{W:World}{b k:Nat}{v:Value}(h:OpB W b)(hk:(k<3/\∃ x:Int,v=.int .i64 x)\/(k=3/\∃ T:ByteArray,v=.string T/\T.size<=1048576)):OpB (W.setCell ⟨b,k,none⟩ v) b:=by
 obtain⟨K,N,I,T,h1,h2⟩:=h;have h3:=VHas.set h2 k v;rcases hk with ⟨hk,x,rfl⟩|⟨rfl,T',rfl,hT⟩
 ·have:k=0\/k=1\/k=2:=by omega
  rcases this with rfl|rfl|rfl
  ·exact⟨x,N,I,T,h1,h3.congr (fun j hj=>by
    have:j=0\/j=1\/j=2\/j=3:=by omega
    rcases this with rfl|rfl|rfl|rfl<;>simp[lf])⟩
  ·exact⟨K,x,I,T,h1,h3.congr (fun j hj=>by
    have:j=0\/j=1\/j=2\/j=3:=by omega
    rcases this with rfl|rfl|rfl|rfl<;>simp[lf])⟩
  ·exact⟨K,N,x,T,h1,h3.congr (fun j hj=>by
    have:j=0\/j=1\/j=2\/j=3:=by omega
    rcases this with rfl|rfl|rfl|rfl<;>simp[lf])⟩
 ·exact⟨K,N,I,T',hT,h3.congr (fun j hj=>by
   have:j=0\/j=1\/j=2\/j=3:=by omega
   rcases this with rfl|rfl|rfl|rfl<;>simp[lf])⟩
theorem tW(base c:Nat)(bo:Option Addr)(bn bc B:Nat)(l:List Nq)(ao:Option Addr)(cap nq:Nat)(eo:Option Addr)(ec:Nat)(hl5:1<=l.length/\l.length<=5)(hnq:nq<=200)(w:World)(hC:CurAt w base c bo bn bc)(hn:GOwn w B 27 10 ao l.length cap (lf (mX l))):Calls Tryz.prog 65 #[.pointer (some ⟨c,0,none⟩),.agg #[.slice ao l.length cap,.slice eo nq ec]] w fun e w'=>∃ (K N I:Int) (T:ByteArray),e=.returned (.agg #[.int .i64 K,.int .i64 N,.int .i64 I,.string T])/\T.size<=1048576/\CurAt w' base c bo bn bc/\w.grownBy w' (some c):=by
 have hcl:=hC.lt;have hal:=ra w (.cells #[.slice ao l.length cap,.slice eo nq ec] 54);have hal2:=ra (w.alloc (.cells #[.slice ao l.length cap,.slice eo nq ec] 54)) (.cells #[.int .i64 0,.int .i64 0,.int .i64 0,.string (ByteArray.mk #[])] 89);have hb:=rt _ _ _ hal hal2;have vK:VHas _ w.heap.size 54 2 (lf [.slice ao l.length cap,.slice eo nq ec]):=vn (bH w [.slice ao l.length cap,.slice eo nq ec] 54) hal2;have vR:VHas _ (w.alloc (.cells #[.slice ao l.length cap,.slice eo nq ec] 54)).heap.size 89 4 (lf [.int .i64 0,.int .i64 0,.int .i64 0,.string (ByteArray.mk #[])]):=bH (w.alloc (.cells #[.slice ao l.length cap,.slice eo nq ec] 54)) [.int .i64 0,.int .i64 0,.int .i64 0,.string (ByteArray.mk #[])] 89;rw[World.size_alloc]at vR;have hD:DOp w base c bo bn bc B l ao cap nq eo ec _:=⟨hC.next hb,vK,GOwn.next hn hb,vR,eQ hb,hcl⟩
 clear hal hal2 hb vK vR hC hn;go_enter Tryz.func65,Tryz.ntmps65;refine aW fun K0 hK0=>?_
 go_wp2;refine hK0.out _ _ ?_;clear hK0;simp only[List.size_toArray,List.length_cons,List.length_nil,List.toArray]at hD;generalize ((w.alloc _).alloc _)=W at hD ⊢;have c0:=VHas.cell hD.cl (j:=0) (by omega);simp[lf]at c0;refine aW fun K0 hK0=>?_
 go_wp2;refine hK0.out _ _ ?_;clear hK0 c0;refine aW fun K0 hK0=>?_
 have hD0:=hD.next (show RB W W.drew from (Below.refl _ _).drew);have hw19:IntKind.i64.wrap ((nq:Int)+1)=((nq:Int)+1):=wi
 refine eG (by kernel_rfl) (by kernel_rfl) (by kernel_rfl) (fun W5=>DOp w base c bo bn bc B l ao cap nq eo ec W5) hD0 (fun i=>if i=3 then RD base c bo bn bc else if i=9 then RD base c bo bn bc else if i=12 then EG (w.heap.size+1+1) else RB) [3,9,12]
  [isV (.pointer (some ⟨c,0,none⟩)),isV (.int .i64 (l.length:Int)),isV (.int .i64 (max (1) ((l.length:Int)))),IvV,isV (.pointer (some ⟨c,0,none⟩)),isV (.pointer (some ⟨w.heap.size,1,none⟩)),isV (.slice eo nq ec),isV (.int .i64 (nq:Int)),isV (.int .i64 ((nq:Int)+1)),IvV,OvV,BxO (w.heap.size+1+1),BxO (w.heap.size+1+1)]
  [(11,12)] [(12,11)] [] (by kernel_rfl) (by kernel_rfl) ⟨iR,iR,iR,IvV.rb,iR,iR,iR,iR,iR,IvV.rb,OvV.rb,BxO.rb,BxO.rb,trivial⟩ (fun i h=>by simp at h;simp[h]) ?_ ?_ ?_
 ·intro i hi j hj hne hx hd v w1 w2 hp hG hR
  simp only[List.mem_cons,List.not_mem_nil,or_false]at hi;rcases hi with rfl|rfl|rfl
  ·have hj2:j<13:=hj
   have hj3:j=0\/j=1\/j=2\/j=3\/j=4\/j=5\/j=6\/j=7\/j=8\/j=9\/j=10\/j=11\/j=12:=by omega
   rcases hj3 with rfl|rfl|rfl|rfl|rfl|rfl|rfl|rfl|rfl|rfl|rfl|rfl|rfl
   ·exact hp
   ·exact hp
   ·exact hp
   ·exact absurd rfl hne
   ·exact hp
   ·exact hp
   ·exact hp
   ·exact hp
   ·exact hp
   ·exact hp
   ·exact hp
   ·obtain⟨b6,e,h1,h2⟩:=hp
    exact⟨b6,e,h1,h2.cur hR.1 hG.cur.typed⟩
   ·obtain⟨b6,e,h1,h2⟩:=hp
    exact⟨b6,e,h1,h2.cur hR.1 hG.cur.typed⟩
  ·have hj2:j<13:=hj
   have hj3:j=0\/j=1\/j=2\/j=3\/j=4\/j=5\/j=6\/j=7\/j=8\/j=9\/j=10\/j=11\/j=12:=by omega
   rcases hj3 with rfl|rfl|rfl|rfl|rfl|rfl|rfl|rfl|rfl|rfl|rfl|rfl|rfl
   ·exact hp
   ·exact hp
   ·exact hp
   ·exact hp
   ·exact hp
   ·exact hp
   ·exact hp
   ·exact hp
   ·exact hp
   ·exact absurd rfl hne
   ·exact hp
   ·obtain⟨b6,e,h1,h2⟩:=hp
    exact⟨b6,e,h1,h2.cur hR.1 hG.cur.typed⟩
   ·obtain⟨b6,e,h1,h2⟩:=hp
    exact⟨b6,e,h1,h2.cur hR.1 hG.cur.typed⟩
  ·have hj2:j<13:=hj
   have hj3:j=0\/j=1\/j=2\/j=3\/j=4\/j=5\/j=6\/j=7\/j=8\/j=9\/j=10\/j=11\/j=12:=by omega
   rcases hj3 with rfl|rfl|rfl|rfl|rfl|rfl|rfl|rfl|rfl|rfl|rfl|rfl|rfl
   ·exact hp
   ·exact hp
   ·exact hp
   ·exact hp
   ·exact hp
   ·exact hp
   ·exact hp
   ·exact hp
   ·exact hp
   ·exact hp
   ·exact hp
   ·exact absurd rfl hx
   ·exact absurd rfl hne
 ·refine aA ?_ (aA ?_ (aA ?_ (aA ?_ (aA ?_ (aA ?_ (aA ?_ (aA ?_ (aA ?_ (aA ?_ (aA ?_ (aA ?_ (aA ?_ (eF)))))))))))))
  ·exact xq rfl rfl fun ev w9 v hG E pr=>by
    have e1:=E.was 0 _;simp[go_sem,e1]
  ·exact xq rfl rfl fun ev w9 v hG E pr=>by
    have e1:=E.was 5 _;simp[go_sem,e1]
  ·exact ExOk.ret rfl _ (fun _ _ h k=>h.next k) (fun _=>rfl) fun ev w9 v hG E pr=>by
    have e1:ev (.tmp 12)=.int .i64 (l.length:Int):=E.tld pr 1 12;refine⟨69,#[.int .i64 1,.int .i64 (l.length:Int)],by simp[go_sem,gv,e1,E.con,E.fn],?_⟩;exact jH (1) ((l.length:Int)) _
  ·exact ExOk.call rfl fun ev w9 v hG E pr=>by
    have e1:ev (.tmp 11)=.pointer (some ⟨c,0,none⟩):=E.tld pr 0 11;have e2:ev (.tmp 13)=.int .i64 (max 1 (l.length:Int)):=E.tld pr 2 13;refine⟨27,#[.pointer (some ⟨c,0,none⟩),.int .i64 (max 1 (l.length:Int))],by simp[go_sem,e1,e2,E.fn],?_⟩;refine (aI base c bo bn bc (max 1 (l.length:Int)) (by omega) (by omega) w9 hG.cur).mono ?_;rintro e w8 ⟨x,rfl,_,hC8,hg8⟩;exact⟨_,rfl,⟨hg8,fun _=>hC8⟩,hG.rd hC8 hg8,_,rfl⟩
  ·exact xq rfl rfl fun ev w9 v hG E pr=>by
    have e1:=E.was 0 _;simp[go_sem,e1]
  ·exact xq rfl rfl fun ev w9 v hG E pr=>by
    have e1:=E.was 3 _;simp[go_sem,e1]
  ·exact xq rfl rfl fun ev w9 v hG E pr=>by
    have e1:ev (.tmp 16)=.pointer (some ⟨w.heap.size,1,none⟩):=E.tld pr 5 16;have cc:=(hG.cl).cell (j:=1) (by omega);simp[lf]at cc;simp[go_sem,cc,e1]
  ·exact xq rfl rfl fun ev w9 v hG E pr=>by
    have e1:ev (.tmp 17)=.slice eo nq ec:=E.tld pr 6 17;simp[go_sem,e1]
  ·exact xq rfl rfl fun ev w9 v hG E pr=>by
    have e1:ev (.tmp 18)=.int .i64 (nq:Int):=E.tld pr 7 18;simp[go_sem,E.con,hw19,e1]
  ·exact ExOk.call rfl fun ev w9 v hG E pr=>by
    have e1:ev (.tmp 15)=.pointer (some ⟨c,0,none⟩):=E.tld pr 4 15;have e2:ev (.tmp 19)=.int .i64 ((nq:Int)+1):=E.tld pr 8 19;refine⟨27,#[.pointer (some ⟨c,0,none⟩),.int .i64 ((nq:Int)+1)],by simp[go_sem,e1,e2,E.fn],?_⟩;refine (aI base c bo bn bc ((nq:Int)+1) (by omega) (by omega) w9 hG.cur).mono ?_;rintro e w8 ⟨x,rfl,_,hC8,hg8⟩;exact⟨_,rfl,⟨hg8,fun _=>hC8⟩,hG.rd hC8 hg8,_,rfl⟩
  ·exact ExOk.val rfl fun ev w9 v hG E pr=>by
    obtain⟨x,e1⟩:IvV (ev (.tmp 14)) w9:=E.tld pr 3 14;obtain⟨y,e2⟩:IvV (ev (.tmp 20)) w9:=E.tld pr 9 20;exact⟨.agg #[.int .i64 0,.int .i64 x,.int .i64 y,.string (ByteArray.mk #[])],w9,(by (simp[go_sem,e1,e2])<;>rfl),rr _,hG,x,y,rfl⟩
  ·exact ExOk.val rfl fun ev w9 v hG E pr=>⟨.pointer (some ⟨w9.heap.size,0,none⟩),w9.alloc (.cells #[.int .i64 0,.int .i64 0,.int .i64 0,.string (ByteArray.mk #[])] 89),(by (simp[go_sem])<;>rfl),ra _ _,hG.next (ra _ _),w9.heap.size,rfl,(by have:=hG.res.lt;omega),0,0,0,(ByteArray.mk #[]),(by decide),bH w9 [.int .i64 0,.int .i64 0,.int .i64 0,.string (ByteArray.mk #[])] 89⟩
  ·exact ExOk.skip rfl (by decide) fun ev w9 v hG E pr=>by
    obtain⟨b6,e1,hb6,hO6⟩:BxO (w.heap.size+1+1) (ev (.tmp 6)) w9:=E.tld pr 11 6;obtain⟨N,I,e2⟩:OvV (ev (.tmp 21)) w9:=E.tld pr 10 21;obtain⟨K0,N0,I0,T0,_,hV6⟩:=hO6;have hg:w9.grownBy (setL w9 b6 0 [.int .i64 0,.int .i64 N,.int .i64 I,.string (ByteArray.mk #[])]) (some b6):=bP _ _ 0 _;have e3:v 11=ev (.tmp 6):=(E.at_ 11 6 rfl (by kernel_rfl) (nb (by kernel_rfl))).symm
    have h12:BxO (w.heap.size+1+1) (v 11) (setL w9 b6 0 [.int .i64 0,.int .i64 N,.int .i64 I,.string (ByteArray.mk #[])]):=by
     rw[e3];exact⟨b6,e1,hb6,0,N,I,(ByteArray.mk #[]),by decide,bE _ hV6⟩
    exact⟨_,bU [.int .i64 0,.int .i64 N,.int .i64 I,.string (ByteArray.mk #[])] rfl e1 e2 hV6 (by kernel_rfl) (cD (by kernel_rfl)),⟨b6,hg,hV6.typed,hb6⟩,hG.op hg hV6.typed (by omega),h12⟩
 ·intro v8 W8 hG8 hp8
  have p12:(BxO (w.heap.size+1+1)) (v8 11) W8:=hp8 12 (by decide) (by kernel_rfl);clear hp8;obtain⟨b6,e6,hb6,hO6⟩:BxO (w.heap.size+1+1) (v8 11) W8:=p12;simp only[bF,Nat.zero_add,Nat.reduceAdd,Act.put,sY,sZ,ss,e6];refine hK0.out _ _ ?_;clear hK0 hD hD0;have hD1:=hG8;clear hG8 e6;refine wp_seq_k fun K1 hK1=>?_
  go_cut [] (fun wc=>DOp w base c bo bn bc B l ao cap nq eo ec wc/\OpB wc b6)
  case first=>
   go_wp2_with fail
   refine (aI base c bo bn bc 12 (by omega) (by omega) _ hD1.cur).mono ?_;rintro e w2 ⟨x,rfl,hx,hc9,hg9⟩;have hO2:=hO6.cur hg9 hD1.cur.typed;have hD2:=hD1.rd hc9 hg9;clear hc9 hg9;have hxx:x=0\/x=1\/x=2\/x=3\/x=10\/x=11\/(4<=x/\x<=9):=by omega
   rcases hxx with rfl|rfl|rfl|rfl|rfl|rfl|hxx
   ·obtain⟨K6,N6,I6,T6,hT6,hV6⟩:=id hO2
    go_wp2_with (first|((with_reducible refine wC 2 (.tmp 30) (.const (.int .i64 1)) b6 0 (.int .i64 1) hV6 ?_);intro WX eX;have hO3:OpB WX b6:=(by subst eX;exact hO2.put (.inl ⟨by omega,_,rfl⟩));have hD3:DOp w base c bo bn bc B l ao cap nq eo ec WX:=(by subst eX;exact hD2.op (aC _ _ _ _) (VHas.typed hV6) (by omega));clear eX)|fail)
    go_meet
    case rel=>exact⟨hD3,hO3⟩
   ·obtain⟨K6,N6,I6,T6,hT6,hV6⟩:=id hO2
    go_wp2_with (first|((with_reducible refine wC 2 (.tmp 33) (.const (.int .i64 2)) b6 0 (.int .i64 2) hV6 ?_);intro WX eX;have hO3:OpB WX b6:=(by subst eX;exact hO2.put (.inl ⟨by omega,_,rfl⟩));have hD3:DOp w base c bo bn bc B l ao cap nq eo ec WX:=(by subst eX;exact hD2.op (aC _ _ _ _) (VHas.typed hV6) (by omega));clear eX)|fail)
    go_meet
    case rel=>exact⟨hD3,hO3⟩
   ·obtain⟨K6,N6,I6,T6,hT6,hV6⟩:=id hO2
    go_wp2_with (first|((with_reducible refine wC 2 (.tmp 37) (.const (.int .i64 3)) b6 0 (.int .i64 3) hV6 ?_);intro WX eX;have hO3:OpB WX b6:=(by subst eX;exact hO2.put (.inl ⟨by omega,_,rfl⟩));have hD3:DOp w base c bo bn bc B l ao cap nq eo ec WX:=(by subst eX;exact hD2.op (aC _ _ _ _) (VHas.typed hV6) (by omega));clear eX)|fail)
    refine (fW base c bo bn bc _ hD3.cur).mono ?_;rintro e w4 ⟨tx,rfl,htx,hc9,hg9⟩;have hO4:=hO3.cur hg9 hD3.cur.typed;have hD4:=hD3.rd hc9 hg9;clear hc9 hg9 hT6 hV6;obtain⟨K6,N6,I6,T6,hT6,hV6⟩:=id hO4
    go_wp2_with (first|((with_reducible refine wC 9 (.tmp 40) (.tmp 39) b6 3 (.string tx) hV6 ?_);intro WX eX;have hO5:OpB WX b6:=(by subst eX;exact hO4.put (.inr ⟨rfl,tx,rfl,by omega⟩));have hD5:DOp w base c bo bn bc B l ao cap nq eo ec WX:=(by subst eX;exact hD4.op (aC _ _ _ _) (VHas.typed hV6) (by omega));clear eX)|fail)
    go_loopw [7] (fun x7 wr=>∃ i:Nat,i<=l.length/\x7=.int .i64 (i:Int)/\DOp w base c bo bn bc B l ao cap nq eo ec wr/\OpB wr b6) (fun x _=>l.length-(intOf x).toNat)
    case atStart=>exact⟨0,Nat.zero_le _,rfl,hD5,hO5⟩
    case round=>
     clear hD5 hO5 hV6 hT6;obtain⟨i,hi,rfl,hD5,hO5⟩:=hrel
     by_cases hlt:i<l.length
     rotate_left
     ·have hge:¬ ((i:Int)<(l.length:Int)):=by omega
      go_wp2
      go_meet
      case rel=>exact⟨hD5,hO5⟩
     obtain⟨g,eg,_,_⟩:=GOwn.vhas hD5.n (by omega);subst eg;obtain⟨y,hy⟩:=lW hlt;have c0:=VHas.cell hD5.cl (j:=0) (by omega);simp[lf]at c0;have cr:=fV (GOwn.lrow hD5.n (nL l)) hy 5 (by omega);simp[lf]at cr;have hi0:(0:Int)<=(i:Int):=by omega
     have hil:(i:Int)<(l.length:Int):=by omega
     have hwi:IntKind.i64.wrap ((i:Int)+1)=(i:Int)+1:=wi
     generalize y.n.role=r at cr
     by_cases hr3:r=3
     ·subst hr3
      go_wp2_with fail
      refine (dA base c bo bn bc 4 (by omega) (by omega) _ hD5.cur).mono ?_;rintro e w6 ⟨bb,rfl,hc9,hg9⟩;have hO7:=hO5.cur hg9 hD5.cur.typed;have hD7:=hD5.rd hc9 hg9;clear hc9 hg9 c0 cr;cases bb
      ·obtain⟨K6,N6,I6,T6,hT6,hV6⟩:=id hO7
       go_wp2_with (first|((with_reducible refine wC 2 (.tmp 59) (.tmp 58) b6 1 (.int .i64 (i:Int)) hV6 ?_);intro WX eX;have hO8:OpB WX b6:=(by subst eX;exact hO7.put (.inl ⟨by omega,_,rfl⟩));have hD8:DOp w base c bo bn bc B l (some ⟨g,0,none⟩) cap nq eo ec WX:=(by subst eX;exact hD7.op (aC _ _ _ _) (VHas.typed hV6) (by omega));clear eX)|fail)
       go_roundw
       case rel=>exact⟨i+1,by omega,by go_num,hD8,hO8⟩
       case measure=>simp[intOf];omega
      ·go_wp2
       go_roundw
       case rel=>exact⟨i+1,by omega,by go_num,hD7,hO7⟩
       case measure=>simp[intOf];omega
     ·have hr3':(r==3)=false:=by simp[hr3]
      clear hr3;go_wp2
      go_roundw
      case rel=>exact⟨i+1,by omega,by go_num,hD5,hO5⟩
      case measure=>simp[intOf];omega
   ·obtain⟨K6,N6,I6,T6,hT6,hV6⟩:=id hO2
    go_wp2_with (first|((with_reducible refine wC 2 (.tmp 37) (.const (.int .i64 3)) b6 0 (.int .i64 3) hV6 ?_);intro WX eX;have hO3:OpB WX b6:=(by subst eX;exact hO2.put (.inl ⟨by omega,_,rfl⟩));have hD3:DOp w base c bo bn bc B l ao cap nq eo ec WX:=(by subst eX;exact hD2.op (aC _ _ _ _) (VHas.typed hV6) (by omega));clear eX)|fail)
    refine (fW base c bo bn bc _ hD3.cur).mono ?_;rintro e w4 ⟨tx,rfl,htx,hc9,hg9⟩;have hO4:=hO3.cur hg9 hD3.cur.typed;have hD4:=hD3.rd hc9 hg9;clear hc9 hg9 hT6 hV6;obtain⟨K6,N6,I6,T6,hT6,hV6⟩:=id hO4
    go_wp2_with (first|((with_reducible refine wC 9 (.tmp 40) (.tmp 39) b6 3 (.string tx) hV6 ?_);intro WX eX;have hO5:OpB WX b6:=(by subst eX;exact hO4.put (.inr ⟨rfl,tx,rfl,by omega⟩));have hD5:DOp w base c bo bn bc B l ao cap nq eo ec WX:=(by subst eX;exact hD4.op (aC _ _ _ _) (VHas.typed hV6) (by omega));clear eX)|fail)
    go_loopw [7] (fun x7 wr=>∃ i:Nat,i<=l.length/\x7=.int .i64 (i:Int)/\DOp w base c bo bn bc B l ao cap nq eo ec wr/\OpB wr b6) (fun x _=>l.length-(intOf x).toNat)
    case atStart=>exact⟨0,Nat.zero_le _,rfl,hD5,hO5⟩
    case round=>
     clear hD5 hO5 hV6 hT6;obtain⟨i,hi,rfl,hD5,hO5⟩:=hrel
     by_cases hlt:i<l.length
     rotate_left
     ·have hge:¬ ((i:Int)<(l.length:Int)):=by omega
      go_wp2
      go_meet
      case rel=>exact⟨hD5,hO5⟩
     obtain⟨g,eg,_,_⟩:=GOwn.vhas hD5.n (by omega);subst eg;obtain⟨y,hy⟩:=lW hlt;have c0:=VHas.cell hD5.cl (j:=0) (by omega);simp[lf]at c0;have cr:=fV (GOwn.lrow hD5.n (nL l)) hy 5 (by omega);simp[lf]at cr;have hi0:(0:Int)<=(i:Int):=by omega
     have hil:(i:Int)<(l.length:Int):=by omega
     have hwi:IntKind.i64.wrap ((i:Int)+1)=(i:Int)+1:=wi
     generalize y.n.role=r at cr
     by_cases hr3:r=3
     ·subst hr3
      go_wp2_with fail
      refine (dA base c bo bn bc 4 (by omega) (by omega) _ hD5.cur).mono ?_;rintro e w6 ⟨bb,rfl,hc9,hg9⟩;have hO7:=hO5.cur hg9 hD5.cur.typed;have hD7:=hD5.rd hc9 hg9;clear hc9 hg9 c0 cr;cases bb
      ·obtain⟨K6,N6,I6,T6,hT6,hV6⟩:=id hO7
       go_wp2_with (first|((with_reducible refine wC 2 (.tmp 59) (.tmp 58) b6 1 (.int .i64 (i:Int)) hV6 ?_);intro WX eX;have hO8:OpB WX b6:=(by subst eX;exact hO7.put (.inl ⟨by omega,_,rfl⟩));have hD8:DOp w base c bo bn bc B l (some ⟨g,0,none⟩) cap nq eo ec WX:=(by subst eX;exact hD7.op (aC _ _ _ _) (VHas.typed hV6) (by omega));clear eX)|fail)
       go_roundw
       case rel=>exact⟨i+1,by omega,by go_num,hD8,hO8⟩
       case measure=>simp[intOf];omega
      ·go_wp2
       go_roundw
       case rel=>exact⟨i+1,by omega,by go_num,hD7,hO7⟩
       case measure=>simp[intOf];omega
     ·have hr3':(r==3)=false:=by simp[hr3]
      clear hr3;go_wp2
      go_roundw
      case rel=>exact⟨i+1,by omega,by go_num,hD5,hO5⟩
      case measure=>simp[intOf];omega
   ·go_wp2_with fail
    refine (aI base c bo bn bc 2 (by omega) (by omega) _ hD2.cur).mono ?_;rintro e w3 ⟨y,rfl,hy,hc9,hg9⟩;have hO3:=hO2.cur hg9 hD2.cur.typed;have hD3:=hD2.rd hc9 hg9;clear hc9 hg9;have hwy:IntKind.i64.wrap (5+(y:Int))=5+(y:Int):=wi
    obtain⟨K6,N6,I6,T6,hT6,hV6⟩:=id hO3
    go_wp2_with (first|((with_reducible refine wC 2 (.tmp 65) (.tmp 64) b6 0 (.int .i64 (5+(y:Int))) hV6 ?_);intro WX eX;have hO4:OpB WX b6:=(by subst eX;exact hO3.put (.inl ⟨by omega,_,rfl⟩));have hD4:DOp w base c bo bn bc B l ao cap nq eo ec WX:=(by subst eX;exact hD3.op (aC _ _ _ _) (VHas.typed hV6) (by omega));clear eX)|fail)
    go_meet
    case rel=>exact⟨hD4,hO4⟩
   ·go_wp2_with fail
    refine (dA base c bo bn bc 3 (by omega) (by omega) _ hD2.cur).mono ?_;rintro e w3 ⟨bb,rfl,hc9,hg9⟩;have hO3:=hO2.cur hg9 hD2.cur.typed;have hD3:=hD2.rd hc9 hg9;clear hc9 hg9;cases bb
    ·obtain⟨K6,N6,I6,T6,hT6,hV6⟩:=id hO3
     go_wp2_with (first|((with_reducible refine wC 2 (.tmp 71) (.const (.int .i64 2)) b6 0 (.int .i64 2) hV6 ?_);intro WX eX;have hO4:OpB WX b6:=(by subst eX;exact hO3.put (.inl ⟨by omega,_,rfl⟩));have hD4:DOp w base c bo bn bc B l ao cap nq eo ec WX:=(by subst eX;exact hD3.op (aC _ _ _ _) (VHas.typed hV6) (by omega));clear eX)|fail)
     go_meet
     case rel=>exact⟨hD4,hO4⟩
    ·obtain⟨K6,N6,I6,T6,hT6,hV6⟩:=id hO3
     go_wp2_with (first|((with_reducible refine wC 2 (.tmp 70) (.const (.int .i64 7)) b6 0 (.int .i64 7) hV6 ?_);intro WX eX;have hO4:OpB WX b6:=(by subst eX;exact hO3.put (.inl ⟨by omega,_,rfl⟩));have hD4:DOp w base c bo bn bc B l ao cap nq eo ec WX:=(by subst eX;exact hD3.op (aC _ _ _ _) (VHas.typed hV6) (by omega));clear eX)|fail)
     go_meet
     case rel=>exact⟨hD4,hO4⟩
   ·have hx0:((x:Int)==0)=false:=by simp;omega
    have hx1:((x:Int)==1)=false:=by simp;omega
    have hx2:((x:Int)==2)=false:=by simp;omega
    have hx3:((x:Int)==3)=false:=by simp;omega
    have hx10:((x:Int)==10)=false:=by simp;omega
    have hx11:((x:Int)==11)=false:=by simp;omega
    obtain⟨K6,N6,I6,T6,hT6,hV6⟩:=id hO2
    go_wp2_with (first|((with_reducible refine wC 2 (.tmp 24) (.const (.int .i64 4)) b6 0 (.int .i64 4) hV6 ?_);intro WX eX;have hO3:OpB WX b6:=(by subst eX;exact hO2.put (.inl ⟨by omega,_,rfl⟩));have hD3:DOp w base c bo bn bc B l ao cap nq eo ec WX:=(by subst eX;exact hD2.op (aC _ _ _ _) (VHas.typed hV6) (by omega));clear eX)|fail)
    refine (dA base c bo bn bc 2 (by omega) (by omega) _ hD3.cur).mono ?_;rintro e w4 ⟨bb,rfl,hc9,hg9⟩;have hO4:=hO3.cur hg9 hD3.cur.typed;have hD4:=hD3.rd hc9 hg9;clear hc9 hg9;clear hV6 hT6;cases bb
    ·go_wp2
     go_meet
     case rel=>exact⟨hD4,hO4⟩
    ·obtain⟨K6,N6,I6,T6,hT6,hV6⟩:=id hO4
     go_wp2_with (first|((with_reducible refine wC 2 (.tmp 27) (.const (.int .i64 0)) b6 2 (.int .i64 0) hV6 ?_);intro WX eX;have hO5:OpB WX b6:=(by subst eX;exact hO4.put (.inl ⟨by omega,_,rfl⟩));have hD5:DOp w base c bo bn bc B l ao cap nq eo ec WX:=(by subst eX;exact hD4.op (aC _ _ _ _) (VHas.typed hV6) (by omega));clear eX)|fail)
     go_meet
     case rel=>exact⟨hD5,hO5⟩
  case rest=>
   obtain⟨hD2,hO2⟩:=hcut;clear hD1 hO6;refine hK1 _ _ ?_;clear hK1;refine wp_seq_k fun K2 hK2=>?_
   go_cut [] (fun wc=>DOp w base c bo bn bc B l ao cap nq eo ec wc/\OpB wc b6)
   case first=>
    go_wp2_with fail
    refine (dA base c bo bn bc 40 (by omega) (by omega) _ hD2.cur).mono ?_;rintro e w3 ⟨bb,rfl,hc9,hg9⟩;have hO3:=hO2.cur hg9 hD2.cur.typed;have hD3:=hD2.rd hc9 hg9;clear hc9 hg9;cases bb
    ·go_wp2
     go_meet
     case rel=>exact⟨hD3,hO3⟩
    ·go_wp2_with fail
     refine (aI base c bo bn bc 3 (by omega) (by omega) _ hD3.cur).mono ?_;rintro e w4 ⟨x,rfl,hx,hc9,hg9⟩;have hO4:=hO3.cur hg9 hD3.cur.typed;have hD4:=hD3.rd hc9 hg9;clear hc9 hg9;have hxx:x=0\/x=1\/x=2:=by omega
     rcases hxx with rfl|rfl|rfl
     ·have hal:=ra w4 (.cells #[.int .i64 0,.int .i64 8,.int .i64 (-1),.int .i64 4611686018427387904] 2)
      replace hD4:=hD4.next hal;replace hO4:=hO4.next hal;have hcs:VHas (w4.alloc (.cells #[.int .i64 0,.int .i64 8,.int .i64 (-1),.int .i64 4611686018427387904] 2)) w4.heap.size 2 4 (lf [.int .i64 0,.int .i64 8,.int .i64 (-1),.int .i64 4611686018427387904]):=bH w4 [.int .i64 0,.int .i64 8,.int .i64 (-1),.int .i64 4611686018427387904] 2;clear hal
      go_wp2_with fail
      refine (aI base c bo bn bc 4 (by omega) (by omega) _ hD4.cur).mono ?_;rintro e w5 ⟨y,rfl,hy,hc9,hg9⟩;have hO5:=hO4.cur hg9 hD4.cur.typed;replace hcs:VHas w5 w4.heap.size 2 4 (lf [.int .i64 0,.int .i64 8,.int .i64 (-1),.int .i64 4611686018427387904]):=VHas.gr hcs hg9 (fun x e=>by cases e;exact hD4.cur.typed) (by decide);have hD5:=hD4.rd hc9 hg9;clear hc9 hg9;have hyy:y=0\/y=1\/y=2\/y=3:=by omega
      have d0:=VHas.cell hcs (j:=0) (by omega);have d1:=VHas.cell hcs (j:=1) (by omega);have d2:=VHas.cell hcs (j:=2) (by omega);have d3:=VHas.cell hcs (j:=3) (by omega);simp[lf]at d0 d1 d2 d3;rcases hyy with rfl|rfl|rfl|rfl
      ·obtain⟨K6,N6,I6,T6,hT6,hV6⟩:=id hO5
       go_wp2_with (first|((with_reducible refine wC 2 (.tmp 83) (.tmp 82) b6 0 (.int .i64 0) hV6 ?_);intro WX eX;have hO6:OpB WX b6:=(by subst eX;exact hO5.put (.inl ⟨by omega,_,rfl⟩));have hD6:DOp w base c bo bn bc B l ao cap nq eo ec WX:=(by subst eX;exact hD5.op (aC _ _ _ _) (VHas.typed hV6) (by omega));clear eX)|fail)
       go_meet
       case rel=>exact⟨hD6,hO6⟩
      ·obtain⟨K6,N6,I6,T6,hT6,hV6⟩:=id hO5
       go_wp2_with (first|((with_reducible refine wC 2 (.tmp 83) (.tmp 82) b6 0 (.int .i64 8) hV6 ?_);intro WX eX;have hO6:OpB WX b6:=(by subst eX;exact hO5.put (.inl ⟨by omega,_,rfl⟩));have hD6:DOp w base c bo bn bc B l ao cap nq eo ec WX:=(by subst eX;exact hD5.op (aC _ _ _ _) (VHas.typed hV6) (by omega));clear eX)|fail)
       go_meet
       case rel=>exact⟨hD6,hO6⟩
      ·obtain⟨K6,N6,I6,T6,hT6,hV6⟩:=id hO5
       go_wp2_with (first|((with_reducible refine wC 2 (.tmp 83) (.tmp 82) b6 0 (.int .i64 (-1)) hV6 ?_);intro WX eX;have hO6:OpB WX b6:=(by subst eX;exact hO5.put (.inl ⟨by omega,_,rfl⟩));have hD6:DOp w base c bo bn bc B l ao cap nq eo ec WX:=(by subst eX;exact hD5.op (aC _ _ _ _) (VHas.typed hV6) (by omega));clear eX)|fail)
       go_meet
       case rel=>exact⟨hD6,hO6⟩
      ·obtain⟨K6,N6,I6,T6,hT6,hV6⟩:=id hO5
       go_wp2_with (first|((with_reducible refine wC 2 (.tmp 83) (.tmp 82) b6 0 (.int .i64 4611686018427387904) hV6 ?_);intro WX eX;have hO6:OpB WX b6:=(by subst eX;exact hO5.put (.inl ⟨by omega,_,rfl⟩));have hD6:DOp w base c bo bn bc B l ao cap nq eo ec WX:=(by subst eX;exact hD5.op (aC _ _ _ _) (VHas.typed hV6) (by omega));clear eX)|fail)
       go_meet
       case rel=>exact⟨hD6,hO6⟩
     ·have hal:=ra w4 (.cells #[.int .i64 (-1),.int .i64 5,.int .i64 4611686018427387904] 2)
      replace hD4:=hD4.next hal;replace hO4:=hO4.next hal;have hcs:VHas (w4.alloc (.cells #[.int .i64 (-1),.int .i64 5,.int .i64 4611686018427387904] 2)) w4.heap.size 2 3 (lf [.int .i64 (-1),.int .i64 5,.int .i64 4611686018427387904]):=bH w4 [.int .i64 (-1),.int .i64 5,.int .i64 4611686018427387904] 2;clear hal
      go_wp2_with fail
      refine (aI base c bo bn bc 3 (by omega) (by omega) _ hD4.cur).mono ?_;rintro e w5 ⟨y,rfl,hy,hc9,hg9⟩;have hO5:=hO4.cur hg9 hD4.cur.typed;replace hcs:VHas w5 w4.heap.size 2 3 (lf [.int .i64 (-1),.int .i64 5,.int .i64 4611686018427387904]):=VHas.gr hcs hg9 (fun x e=>by cases e;exact hD4.cur.typed) (by decide);have hD5:=hD4.rd hc9 hg9;clear hc9 hg9;have hyy:y=0\/y=1\/y=2:=by omega
      have d0:=VHas.cell hcs (j:=0) (by omega);have d1:=VHas.cell hcs (j:=1) (by omega);have d2:=VHas.cell hcs (j:=2) (by omega);simp[lf]at d0 d1 d2;rcases hyy with rfl|rfl|rfl
      ·obtain⟨K6,N6,I6,T6,hT6,hV6⟩:=id hO5
       go_wp2_with (first|((with_reducible refine wC 2 (.tmp 91) (.tmp 90) b6 1 (.int .i64 (-1)) hV6 ?_);intro WX eX;have hO6:OpB WX b6:=(by subst eX;exact hO5.put (.inl ⟨by omega,_,rfl⟩));have hD6:DOp w base c bo bn bc B l ao cap nq eo ec WX:=(by subst eX;exact hD5.op (aC _ _ _ _) (VHas.typed hV6) (by omega));clear eX)|fail)
       go_meet
       case rel=>exact⟨hD6,hO6⟩
      ·obtain⟨K6,N6,I6,T6,hT6,hV6⟩:=id hO5
       go_wp2_with (first|((with_reducible refine wC 2 (.tmp 91) (.tmp 90) b6 1 (.int .i64 5) hV6 ?_);intro WX eX;have hO6:OpB WX b6:=(by subst eX;exact hO5.put (.inl ⟨by omega,_,rfl⟩));have hD6:DOp w base c bo bn bc B l ao cap nq eo ec WX:=(by subst eX;exact hD5.op (aC _ _ _ _) (VHas.typed hV6) (by omega));clear eX)|fail)
       go_meet
       case rel=>exact⟨hD6,hO6⟩
      ·obtain⟨K6,N6,I6,T6,hT6,hV6⟩:=id hO5
       go_wp2_with (first|((with_reducible refine wC 2 (.tmp 91) (.tmp 90) b6 1 (.int .i64 4611686018427387904) hV6 ?_);intro WX eX;have hO6:OpB WX b6:=(by subst eX;exact hO5.put (.inl ⟨by omega,_,rfl⟩));have hD6:DOp w base c bo bn bc B l ao cap nq eo ec WX:=(by subst eX;exact hD5.op (aC _ _ _ _) (VHas.typed hV6) (by omega));clear eX)|fail)
       go_meet
       case rel=>exact⟨hD6,hO6⟩
     ·have hal:=ra w4 (.cells #[.int .i64 (-1),.int .i64 200,.int .i64 4611686018427387904] 2)
      replace hD4:=hD4.next hal;replace hO4:=hO4.next hal;have hcs:VHas (w4.alloc (.cells #[.int .i64 (-1),.int .i64 200,.int .i64 4611686018427387904] 2)) w4.heap.size 2 3 (lf [.int .i64 (-1),.int .i64 200,.int .i64 4611686018427387904]):=bH w4 [.int .i64 (-1),.int .i64 200,.int .i64 4611686018427387904] 2;clear hal
      go_wp2_with fail
      refine (aI base c bo bn bc 3 (by omega) (by omega) _ hD4.cur).mono ?_;rintro e w5 ⟨y,rfl,hy,hc9,hg9⟩;have hO5:=hO4.cur hg9 hD4.cur.typed;replace hcs:VHas w5 w4.heap.size 2 3 (lf [.int .i64 (-1),.int .i64 200,.int .i64 4611686018427387904]):=VHas.gr hcs hg9 (fun x e=>by cases e;exact hD4.cur.typed) (by decide);have hD5:=hD4.rd hc9 hg9;clear hc9 hg9;have hyy:y=0\/y=1\/y=2:=by omega
      have d0:=VHas.cell hcs (j:=0) (by omega);have d1:=VHas.cell hcs (j:=1) (by omega);have d2:=VHas.cell hcs (j:=2) (by omega);simp[lf]at d0 d1 d2;rcases hyy with rfl|rfl|rfl
      ·obtain⟨K6,N6,I6,T6,hT6,hV6⟩:=id hO5
       go_wp2_with (first|((with_reducible refine wC 2 (.tmp 99) (.tmp 98) b6 2 (.int .i64 (-1)) hV6 ?_);intro WX eX;have hO6:OpB WX b6:=(by subst eX;exact hO5.put (.inl ⟨by omega,_,rfl⟩));have hD6:DOp w base c bo bn bc B l ao cap nq eo ec WX:=(by subst eX;exact hD5.op (aC _ _ _ _) (VHas.typed hV6) (by omega));clear eX)|fail)
       go_meet
       case rel=>exact⟨hD6,hO6⟩
      ·obtain⟨K6,N6,I6,T6,hT6,hV6⟩:=id hO5
       go_wp2_with (first|((with_reducible refine wC 2 (.tmp 99) (.tmp 98) b6 2 (.int .i64 200) hV6 ?_);intro WX eX;have hO6:OpB WX b6:=(by subst eX;exact hO5.put (.inl ⟨by omega,_,rfl⟩));have hD6:DOp w base c bo bn bc B l ao cap nq eo ec WX:=(by subst eX;exact hD5.op (aC _ _ _ _) (VHas.typed hV6) (by omega));clear eX)|fail)
       go_meet
       case rel=>exact⟨hD6,hO6⟩
      ·obtain⟨K6,N6,I6,T6,hT6,hV6⟩:=id hO5
       go_wp2_with (first|((with_reducible refine wC 2 (.tmp 99) (.tmp 98) b6 2 (.int .i64 4611686018427387904) hV6 ?_);intro WX eX;have hO6:OpB WX b6:=(by subst eX;exact hO5.put (.inl ⟨by omega,_,rfl⟩));have hD6:DOp w base c bo bn bc B l ao cap nq eo ec WX:=(by subst eX;exact hD5.op (aC _ _ _ _) (VHas.typed hV6) (by omega));clear eX)|fail)
       go_meet
       case rel=>exact⟨hD6,hO6⟩
   case rest=>
    obtain⟨hD3,hO3⟩:=hcut;clear hD2 hO2;obtain⟨K6,N6,I6,T6,hT6,hV6⟩:=hO3;have d0:=VHas.cell hV6 (j:=0) (by omega);have d1:=VHas.cell hV6 (j:=1) (by omega);have d2:=VHas.cell hV6 (j:=2) (by omega);have d3:=VHas.cell hV6 (j:=3) (by omega);simp[lf]at d0 d1 d2 d3;have hres:=hD3.res
    go_wp2_with (first|((with_reducible refine wB 89 (.tmp 4) (.tmp 100) (w.heap.size+1) [.int .i64 K6,.int .i64 N6,.int .i64 I6,.string T6] hres ?_);intro W9 hv9 hg9)|fail)
    clear d0 d1 d2 d3;have d0:=VHas.cell hv9 (j:=0) (by simp);have d1:=VHas.cell hv9 (j:=1) (by simp);have d2:=VHas.cell hv9 (j:=2) (by simp);have d3:=VHas.cell hv9 (j:=3) (by simp);simp[lf]at d0 d1 d2 d3;refine bodyPost_ret (v:=.agg #[.int .i64 K6,.int .i64 N6,.int .i64 I6,.string T6]) (by simp[results,Tryz.results65,go_sem,d0,d1,d2,d3]) rfl ⟨K6,N6,I6,T6,rfl,hT6,hD3.cur.grown hg9 (by have:=hD3.cur.ge;have:=hD3.lt;omega) (by have:=hD3.lt;omega),?_⟩;have hgr:=hD3.gr;exact⟨hg9.os.trans hgr.os,hg9.tape.trans hgr.tape,hg9.output.trans hgr.output,Nat.le_trans hgr.size hg9.size,fun k hk hc=>(hg9.block k (Nat.lt_of_lt_of_le hk hgr.size) (fun e=>by have:=oI e;omega)).trans (hgr.block k hk hc)⟩
theorem H9(b base:Nat)(l:List Nq)(q:List Mq)(ao:Option Addr)(cap:Nat)(eo:Option Addr)(ec:Nat)(N I:Int)(T:ByteArray)(hT:T.size<=1048576)(w:World)(hbs:base<=w.heap.size)(hbb:base<=b)(hC:ClB w b base l q ao cap eo ec)(hP:ClP l q):Calls Tryz.prog 64 #[.pointer (some ⟨b,0,none⟩),.agg #[.int .i64 1,.int .i64 N,.int .i64 I,.string T]] w fun e w'=>CI b base l.length ao cap w w' e:=by
 have hq200:=hP.net;have hl5:=hP.len;obtain⟨g,eg,hgb,_⟩:=GOwn.vhas hC.n (by omega);subst eg;have hal:=ra w (.cells #[.int .i64 1,.int .i64 N,.int .i64 I,.string T] 89);have vO:VHas (w.alloc (.cells #[.int .i64 1,.int .i64 N,.int .i64 I,.string T] 89)) w.heap.size 89 4 (lf [.int .i64 1,.int .i64 N,.int .i64 I,.string T]):=bH w [.int .i64 1,.int .i64 N,.int .i64 I,.string T] 89;have hbl:=aN (Below.refl base w) hbs hal;replace hC:=hC.next hal;clear hal;go_enter Tryz.func64,Tryz.ntmps64;have o0:=VHas.cell vO (j:=0) (by omega);simp[lf]at o0
 go_wp2_with fail
 clear o0;generalize (w.alloc (.cells #[.int .i64 1,.int .i64 N,.int .i64 I,.string T] 89))=W at vO hbl hC ⊢;refine (bS 1 1 7 _).mono ?_;rintro e w1 ⟨rfl,hb1⟩;rw[show dD 1 1 7=true from rfl];replace vO:VHas w1 w.heap.size 89 4 (lf [.int .i64 1,.int .i64 N,.int .i64 I,.string T]):=vn vO hb1;replace hC:=hC.next hb1;replace hbl:=aN hbl hbs hb1;clear hb1;have o0:=VHas.cell vO (j:=0) (by omega);simp[lf]at o0
 go_wp2_with fail
 refine (bS 1 4 6 _).mono ?_;rintro e w2 ⟨rfl,hb1⟩;rw[show dD 1 4 6=false from rfl];replace vO:VHas w2 w.heap.size 89 4 (lf [.int .i64 1,.int .i64 N,.int .i64 I,.string T]):=vn vO hb1;replace hC:=hC.next hb1;replace hbl:=aN hbl hbs hb1;clear hb1 o0
 go_wp2_with fail
 have hd:RB w2 w2.drew:=(Below.refl _ _).drew;have hD:=hC.next hd;have hO:VHas w2.drew w.heap.size 89 4 (lf [.int .i64 1,.int .i64 N,.int .i64 I,.string T]):=vn vO hd;replace hbl:=aN hbl hbs hd;clear hC vO hd;have hw35:IntKind.i64.wrap ((l.length:Int)-1)=((l.length:Int)-1):=wi
 obtain⟨b36,qb36⟩:∃ b:Bool,b=(dD (N) (0) (((l.length:Int)-1))):=⟨_,rfl⟩
 obtain⟨b37,qb37⟩:∃ b:Bool,b=(!b36):=⟨_,rfl⟩
 refine bQ (by kernel_rfl) (by kernel_rfl) RB rr rt
  [isV (.pointer (some ⟨w.heap.size,1,none⟩)),isV (.int .i64 N),isV (.pointer (some ⟨b,0,none⟩)),isV (.pointer (some ⟨b,0,none⟩)),isV (.pointer (some ⟨b,0,none⟩)),isV (.slice (some ⟨g,0,none⟩) l.length cap),isV (.int .i64 (l.length:Int)),isV (.int .i64 ((l.length:Int)-1)),isV (.bool b36),isV (.bool b37),isV (.bool b37)]
  ⟨iR,iR,iR,iR,iR,iR,iR,iR,iR,iR,iR,trivial⟩ rfl ?_ ?_
 ·refine⟨?_,?_,?_,?_,?_,?_,?_,?_,?_,?_,?_,trivial⟩
  ·exact ow 3
  ·exact oc 0 28 fun _ hR=>(hO.next hR).cell (j:=1) (by omega)
  ·exact ow 0
  ·exact o1 2 30
  ·exact o1 3 31
  ·exact oc 4 32 fun _ hR=>(hD.x.next hR).cell (j:=0) (by omega)
  ·exact o1 5 33
  ·exact mQ 6 34 hw35
  ·exact OpOk.ret _ (fun _=>rfl) fun ev w' v hR E pr=>by
    have e1:=E.eq pr 1 29;have e2:=E.eq pr 7 35;refine⟨40,#[.int .i64 N,.int .i64 0,.int .i64 ((l.length:Int)-1)],by simp[go_sem,gv,e1,e2,E.con,E.fn],?_⟩;rw[qb36];exact bS (N) (0) (((l.length:Int)-1)) _
  ·exact mQ 8 36 qb37
  ·exact o1 9 37
 ·intro v w' hR hp
  obtain⟨_,_,_,_,_,_,_,_,_,_,p10,_⟩:=hp;replace p10:v 10=.bool b37:=p10;simp only[bF,Nat.zero_add,Nat.reduceAdd,p10,Act.put,sY,sZ,ss];replace hD:=hD.next hR;replace hO:VHas w' w.heap.size 89 4 (lf [.int .i64 1,.int .i64 N,.int .i64 I,.string T]):=vn hO hR;replace hbl:=aN hbl hbs hR;clear hR;rcases bq (dD N 0 ((l.length:Int)-1)) with hto|hto
  rotate_left
  ·rw[qb37,qb36,hto]
   go_wp2;simp[bodyPost,results,Tryz.results64,go_sem];exact⟨⟨_,rfl⟩,⟨l,⟨_,_,_,hD,hP⟩,rfl⟩,hbl⟩
  rw[qb37,qb36,hto];obtain⟨t,rfl,htL⟩:=kB hto;clear qb37 qb36 hto;have ht0:(0:Int)<=(t:Int):=by omega
  have htl:(t:Int)<(l.length:Int):=by omega
  have o0:=VHas.cell hO (j:=0) (by omega);have o1:=VHas.cell hO (j:=1) (by omega);have o2:=VHas.cell hO (j:=2) (by omega);simp[lf]at o0 o1 o2;have hsb:base<=w'.heap.size:=Nat.le_trans hbs hbl.size;have halL:=ra w' (.cells #[] 29);replace hD:=hD.next halL;replace hO:VHas (w'.alloc (.cells #[] 29)) w.heap.size 89 4 (lf [.int .i64 1,.int .i64 (t:Int),.int .i64 I,.string T]):=vn hO halL;replace hbl:=aN hbl hbs halL;obtain⟨y,hy⟩:=lW htL;obtain⟨hyk,hyi,hyp,hyt⟩:=hP.ok t y hy;have o0:=VHas.cell hO (j:=0) (by omega);simp[lf]at o0
  go_wp2_with fail
  clear o0 o1 o2;have hd:RB (w'.alloc (.cells #[] 29)) (w'.alloc (.cells #[] 29)).drew:=(Below.refl _ _).drew;replace hD:=hD.next hd;replace hO:VHas (w'.alloc (.cells #[] 29)).drew w.heap.size 89 4 (lf [.int .i64 1,.int .i64 (t:Int),.int .i64 I,.string T]):=vn hO hd;replace hbl:=aN hbl hbs hd;have hyO:=hD.nl y (List.mem_of_getElem? hy);have hyz:NdZ y.n y.s:=hyk.zz hyt hyO.K;have hWs:base<=(w'.alloc (.cells #[] 29)).drew.heap.size:=Nat.le_trans hbs hbl.size;have hA9:∀ x,(Value.slice eo q.length ec).ownBlock=some x->x<(w'.alloc (.cells #[] 29)).drew.heap.size:=fun x e=>(GOwn.at hD.m.o e).2
  clear hd
  refine cY (by kernel_rfl) (by kernel_rfl) 19 [0,1,2,3,4,5,6,7,8,9,10,11,12,13,14,15,16,18] [15,17,20] (by kernel_rfl) (by kernel_rfl)
   (fun u v=>u.grownBy v (some g)/\aG u g 27)
   (fun W5=>(∃ s5,ClB W5 b base (l.set t ⟨(pU y.n),s5⟩) q (some ⟨g,0,none⟩) cap eo ec)/\Below base w W5/\(w'.alloc (.cells #[] 29)).drew.heap.size<=W5.heap.size)
   (fun a9 b9 h hR=>⟨h.1.elim fun s5 h5=>⟨s5,h5.next hR⟩,aN h.2.1 hbs hR,Nat.le_trans h.2.2 hR.size⟩)
   [isV (.pointer (some ⟨b,0,none⟩)),isV (.pointer (some ⟨b,0,none⟩)),isV (.pointer (some ⟨b,0,none⟩)),isV (.slice (some ⟨g,0,none⟩) l.length cap),isV (.pointer (some ⟨w.heap.size,1,none⟩)),isV (.int .i64 (t:Int)),isV (.pointer (some ⟨b,0,none⟩)),isV (.pointer (some ⟨b,0,none⟩)),isV (.pointer (some ⟨b,0,none⟩)),isV (.slice (some ⟨g,0,none⟩) l.length cap),isV (.pointer (some ⟨w.heap.size,1,none⟩)),isV (.int .i64 (t:Int)),isV (.pointer (some ⟨g,t*10,none⟩)),isV (aX y.n y.s),RcV (w'.alloc (.cells #[] 29)).drew.heap.size (pU y.n) (yI y.n),RcV (w'.alloc (.cells #[] 29)).drew.heap.size (pU y.n) (yI y.n),CpV (w'.alloc (.cells #[] 29)).drew.heap.size (pU y.n),NetV (w'.alloc (.cells #[] 29)).drew.heap.size (yI y.n),isV (.pointer (some ⟨g,t*10,none⟩)),fun _ _=>True,NetV (w'.alloc (.cells #[] 29)).drew.heap.size (yI y.n)]
   ⟨iR,iR,iR,iR,iR,iR,iR,iR,iR,iR,iR,iR,iR,iR,RcV.rb,RcV.rb,CpV.rb,NetV.rb,iR,fun _ _ _ h _=>h,NetV.rb,trivial⟩ ?_ ?_ (kR ?_) _ rfl rfl ?_ ?_
  ·intro i hi v a9 b9 h hx
   simp only[List.mem_cons,List.not_mem_nil,or_false]at hi;rcases hi with rfl|rfl|rfl
   ·exact RcV.gr h hx.1 hx.2
   ·exact NetV.gr h hx.1 hx.2
   ·exact NetV.gr h hx.1 hx.2
  ·intro i hi o ho
   simp only[List.mem_cons,List.not_mem_nil,or_false]at hi;rcases hi with rfl|rfl|rfl|rfl|rfl|rfl|rfl|rfl|rfl|rfl|rfl|rfl|rfl|rfl|rfl|rfl|rfl|rfl<;>(obtain rfl:=oI ho)
   ·exact ow 0
   ·exact o1 0 44
   ·exact o1 1 45
   ·exact oc 2 46 fun _ hR=>(hD.x.next hR).cell (j:=0) (by omega)
   ·exact ow 3
   ·exact oc 4 48 fun _ hR=>(hO.next hR).cell (j:=1) (by omega)
   ·exact ow 0
   ·exact o1 6 50
   ·exact o1 7 51
   ·exact oc 8 52 fun _ hR=>(hD.x.next hR).cell (j:=0) (by omega)
   ·exact ow 3
   ·exact oc 10 54 fun _ hR=>(hO.next hR).cell (j:=1) (by omega)
   ·exact oq rfl fun ev w9 v hR E pr=>by
     have e1:=E.eq pr 9 53;have e2:=E.eq pr 11 55;simp[go_sem,ht0,htl,e1,e2]
   ·exact oq rfl fun ev w9 v hR E pr=>by
     have e1:=E.eq pr 12 56;exact iC rfl e1 (GOwn.next hD.n hR) hy
   ·refine OpOk.call rfl fun ev w9 v hR E pr=>?_
    have e1:=E.eq pr 13 57;refine⟨15,#[aX y.n y.s],by simp[go_sem,e1,E.fn],?_⟩;refine (qZ y.n y.s hyz w9 (hyO.next hR).M).mono ?_;rintro e w8 ⟨s',v',rfl,hOs,hNv,hb⟩;exact⟨_,rfl,hb,s',v',rfl,hOs.from hR.size,NetV.from hNv hR.size⟩
   ·exact OpOk.val rfl fun ev w9 v hR E pr=>⟨ev (.tmp 58),w9,by simp[go_sem],rr _,E.get pr 14 58⟩
   ·refine OpOk.val rfl fun ev w9 v hR E pr=>?_
    obtain⟨s,u,e1,h1,h2⟩:RcV (w'.alloc (.cells #[] 29)).drew.heap.size (pU y.n) (yI y.n) (ev (.tmp 43)) w9:=E.get pr 15 43;exact⟨aX (pU y.n) s,w9,by simp[go_sem,e1],rr _,s,rfl,h1⟩
   ·exact oq rfl fun ev w9 v hR E pr=>by
     have e1:=E.eq pr 3 47;have e2:=E.eq pr 5 49;simp[go_sem,ht0,htl,e1,e2]
  ·refine aD rfl (aD rfl (aD rfl (aD rfl (aD rfl (aD rfl (aD rfl (aD rfl (aD rfl (aD rfl (aD rfl (aD rfl (aD rfl (aD rfl (aD rfl (aD rfl (aD rfl (aM ?_ (aD rfl (aD rfl (aM ?_ (trivial)))))))))))))))))))))
   ·intro ev w9 v hR E pr
    obtain⟨s,u,e1,h1,h2⟩:RcV (w'.alloc (.cells #[] 29)).drew.heap.size (pU y.n) (yI y.n) (ev (.tmp 43)) w9:=E.kept pr 15 43;exact⟨u,w9,by simp[go_sem,e1],rr _,h2⟩
   ·intro ev w9 v hR E pr
    exact⟨ev (.tmp 60),w9,by simp[go_sem],rr _,E.kept pr 17 60⟩
  ·intro ev w9 v hR E hp
   have E1:ev (.tmp 61)=.pointer (some ⟨g,t*10,none⟩):=E.get hp 18 61;obtain⟨s5,E2,hO5⟩:CpV (w'.alloc (.cells #[] 29)).drew.heap.size (pU y.n) (ev (.tmp 59)) w9:=E.get hp 16 59;have h9:=hD.next hR;have g9:=bP g (aJ (pU y.n) s5) (t*10) w9;have hgn:∀ x,some g=some x->aG w9 x 27:=fun x e=>GOwn.typed h9.n (x:=x) (by cases e;rfl)
   exact⟨_,lV (aJ (pU y.n) s5) rfl E1 E2 ((GOwn.vhas h9.n (by omega)).elim fun g' ⟨e',_,hv⟩=>by cases e';exact hv) (by show t*10+10<=l.length*10;omega) (by kernel_rfl) (cD (by kernel_rfl)),⟨g9,hgn g rfl⟩,⟨s5,h9.put htL ⟨(pU y.n),s5⟩ (hO5.from hWs)⟩,kI (aN hbl hbs hR) hbs g9 (fun x e=>(GOwn.at h9.n (x:=x) (by cases e;rfl)).1),Nat.le_trans hR.size g9.size⟩
  ·intro v8 W8 hP8 hk8
   have k8:NetV (w'.alloc (.cells #[] 29)).drew.heap.size (yI y.n) (v8 20) W8:=hk8 20 (by decide) (nb (by kernel_rfl)) (by decide);simp only[bF,Nat.zero_add,Nat.reduceAdd,Act.put,sY,sZ,ss];clear hk8;generalize v8 20=u5 at k8 ⊢;obtain⟨⟨s5,hC9⟩,hbl9,hsz8⟩:=hP8;have hsm:=CJ hyk;have hPn:=hP.put (z':=⟨pU y.n,s5⟩) hy (by show OkN (pU y.n);rw[hyk.ne.1];exact hyk.tm) (by show (pU y.n).id = _;rw[hyk.ne.1];exact hsm.1) (by show (pU y.n).peers = _;rw[hyk.ne.1];exact hsm.2) (by show TxL (pU y.n).log;rw[hyk.ne.1];exact DG hyt);have hS8:FL l.length (w'.alloc (.cells #[] 29)).drew u5 W8:=⟨_,k8,by rw[hyk.ne.2.1,<-hyp];exact EV hyk hyt,by rw[hyk.ne.2.1];exact DY hyk⟩
   have hszW:(w'.alloc (.cells #[] 29)).drew.heap.size<=W8.heap.size:=hsz8
   go_wp2_with fail
   refine (nD b base _ q _ cap eo ec u5 (w'.alloc (.cells #[] 29)).drew _ hWs hszW hbb hC9 hA9 hPn (by rw[List.length_set];exact hS8)).mono ?_;rintro e w9 ⟨rfl,hS9,hbl9'⟩;go_wp2;simp[bodyPost,results,Tryz.results64,go_sem];exact⟨⟨_,rfl⟩,⟨_,hS9,by rw[List.length_set]⟩,kQ hbl9 hbl9' hbs⟩
theorem G6(b base:Nat)(l:List Nq)(q:List Mq)(ao:Option Addr)(cap:Nat)(eo:Option Addr)(ec:Nat)(N I:Int)(T:ByteArray)(hT:T.size<=1048576)(w:World)(hbs:base<=w.heap.size)(hbb:base<=b)(hC:ClB w b base l q ao cap eo ec)(hP:ClP l q):Calls Tryz.prog 64 #[.pointer (some ⟨b,0,none⟩),.agg #[.int .i64 2,.int .i64 N,.int .i64 I,.string T]] w fun e w'=>CI b base l.length ao cap w w' e:=by
 have hq200:=hP.net;have hl5:=hP.len;obtain⟨g,eg,hgb,_⟩:=GOwn.vhas hC.n (by omega);subst eg;have hal:=ra w (.cells #[.int .i64 2,.int .i64 N,.int .i64 I,.string T] 89);have vO:VHas (w.alloc (.cells #[.int .i64 2,.int .i64 N,.int .i64 I,.string T] 89)) w.heap.size 89 4 (lf [.int .i64 2,.int .i64 N,.int .i64 I,.string T]):=bH w [.int .i64 2,.int .i64 N,.int .i64 I,.string T] 89;have hbl:=aN (Below.refl base w) hbs hal;replace hC:=hC.next hal;clear hal;go_enter Tryz.func64,Tryz.ntmps64;have o0:=VHas.cell vO (j:=0) (by omega);simp[lf]at o0
 go_wp2_with fail
 clear o0;generalize (w.alloc (.cells #[.int .i64 2,.int .i64 N,.int .i64 I,.string T] 89))=W at vO hbl hC ⊢;refine (bS 2 1 7 _).mono ?_;rintro e w1 ⟨rfl,hb1⟩;rw[show dD 2 1 7=true from rfl];replace vO:VHas w1 w.heap.size 89 4 (lf [.int .i64 2,.int .i64 N,.int .i64 I,.string T]):=vn vO hb1;replace hC:=hC.next hb1;replace hbl:=aN hbl hbs hb1;clear hb1;have o0:=VHas.cell vO (j:=0) (by omega);simp[lf]at o0
 go_wp2_with fail
 refine (bS 2 4 6 _).mono ?_;rintro e w2 ⟨rfl,hb1⟩;rw[show dD 2 4 6=false from rfl];replace vO:VHas w2 w.heap.size 89 4 (lf [.int .i64 2,.int .i64 N,.int .i64 I,.string T]):=vn vO hb1;replace hC:=hC.next hb1;replace hbl:=aN hbl hbs hb1;clear hb1 o0
 go_wp2_with fail
 have hd:RB w2 w2.drew:=(Below.refl _ _).drew;have hD:=hC.next hd;have hO:VHas w2.drew w.heap.size 89 4 (lf [.int .i64 2,.int .i64 N,.int .i64 I,.string T]):=vn vO hd;replace hbl:=aN hbl hbs hd;clear hC vO hd;have hw35:IntKind.i64.wrap ((l.length:Int)-1)=((l.length:Int)-1):=wi
 obtain⟨b36,qb36⟩:∃ b:Bool,b=(dD (N) (0) (((l.length:Int)-1))):=⟨_,rfl⟩
 obtain⟨b37,qb37⟩:∃ b:Bool,b=(!b36):=⟨_,rfl⟩
 refine bQ (by kernel_rfl) (by kernel_rfl) RB rr rt
  [isV (.pointer (some ⟨w.heap.size,1,none⟩)),isV (.int .i64 N),isV (.pointer (some ⟨b,0,none⟩)),isV (.pointer (some ⟨b,0,none⟩)),isV (.pointer (some ⟨b,0,none⟩)),isV (.slice (some ⟨g,0,none⟩) l.length cap),isV (.int .i64 (l.length:Int)),isV (.int .i64 ((l.length:Int)-1)),isV (.bool b36),isV (.bool b37),isV (.bool b37)]
  ⟨iR,iR,iR,iR,iR,iR,iR,iR,iR,iR,iR,trivial⟩ rfl ?_ ?_
 ·refine⟨?_,?_,?_,?_,?_,?_,?_,?_,?_,?_,?_,trivial⟩
  ·exact ow 3
  ·exact oc 0 28 fun _ hR=>(hO.next hR).cell (j:=1) (by omega)
  ·exact ow 0
  ·exact o1 2 30
  ·exact o1 3 31
  ·exact oc 4 32 fun _ hR=>(hD.x.next hR).cell (j:=0) (by omega)
  ·exact o1 5 33
  ·exact mQ 6 34 hw35
  ·exact OpOk.ret _ (fun _=>rfl) fun ev w' v hR E pr=>by
    have e1:=E.eq pr 1 29;have e2:=E.eq pr 7 35;refine⟨40,#[.int .i64 N,.int .i64 0,.int .i64 ((l.length:Int)-1)],by simp[go_sem,gv,e1,e2,E.con,E.fn],?_⟩;rw[qb36];exact bS (N) (0) (((l.length:Int)-1)) _
  ·exact mQ 8 36 qb37
  ·exact o1 9 37
 ·intro v w' hR hp
  obtain⟨_,_,_,_,_,_,_,_,_,_,p10,_⟩:=hp;replace p10:v 10=.bool b37:=p10;simp only[bF,Nat.zero_add,Nat.reduceAdd,p10,Act.put,sY,sZ,ss];replace hD:=hD.next hR;replace hO:VHas w' w.heap.size 89 4 (lf [.int .i64 2,.int .i64 N,.int .i64 I,.string T]):=vn hO hR;replace hbl:=aN hbl hbs hR;clear hR;rcases bq (dD N 0 ((l.length:Int)-1)) with hto|hto
  rotate_left
  ·rw[qb37,qb36,hto]
   go_wp2;simp[bodyPost,results,Tryz.results64,go_sem];exact⟨⟨_,rfl⟩,⟨l,⟨_,_,_,hD,hP⟩,rfl⟩,hbl⟩
  rw[qb37,qb36,hto];obtain⟨t,rfl,htL⟩:=kB hto;clear qb37 qb36 hto;have ht0:(0:Int)<=(t:Int):=by omega
  have htl:(t:Int)<(l.length:Int):=by omega
  have o0:=VHas.cell hO (j:=0) (by omega);have o1:=VHas.cell hO (j:=1) (by omega);have o2:=VHas.cell hO (j:=2) (by omega);simp[lf]at o0 o1 o2;have hsb:base<=w'.heap.size:=Nat.le_trans hbs hbl.size;have halL:=ra w' (.cells #[] 29);replace hD:=hD.next halL;replace hO:VHas (w'.alloc (.cells #[] 29)) w.heap.size 89 4 (lf [.int .i64 2,.int .i64 (t:Int),.int .i64 I,.string T]):=vn hO halL;replace hbl:=aN hbl hbs halL;obtain⟨y,hy⟩:=lW htL;obtain⟨hyk,hyi,hyp,hyt⟩:=hP.ok t y hy;have o0:=VHas.cell hO (j:=0) (by omega);simp[lf]at o0
  go_wp2_with fail
  clear o0 o1 o2;have hd:RB (w'.alloc (.cells #[] 29)) (w'.alloc (.cells #[] 29)).drew:=(Below.refl _ _).drew;replace hD:=hD.next hd;replace hO:VHas (w'.alloc (.cells #[] 29)).drew w.heap.size 89 4 (lf [.int .i64 2,.int .i64 (t:Int),.int .i64 I,.string T]):=vn hO hd;replace hbl:=aN hbl hbs hd;have hyO:=hD.nl y (List.mem_of_getElem? hy);have hyz:NdZ y.n y.s:=hyk.zz hyt hyO.K;have hWs:base<=(w'.alloc (.cells #[] 29)).drew.heap.size:=Nat.le_trans hbs hbl.size;have hA9:∀ x,(Value.slice eo q.length ec).ownBlock=some x->x<(w'.alloc (.cells #[] 29)).drew.heap.size:=fun x e=>(GOwn.at hD.m.o e).2
  clear hd
  refine eG (by kernel_rfl) (by kernel_rfl) (by kernel_rfl) (fun W5=>RB (w'.alloc (.cells #[] 29)).drew W5) (rr _) (fun i=>RB) []
   [isV (.pointer (some ⟨b,0,none⟩)),isV (.pointer (some ⟨b,0,none⟩)),isV (.pointer (some ⟨b,0,none⟩)),isV (.slice (some ⟨g,0,none⟩) l.length cap),isV (.pointer (some ⟨w.heap.size,1,none⟩)),isV (.int .i64 (t:Int)),isV (.pointer (some ⟨g,t*10,none⟩)),isV (aX y.n y.s),NetV (w'.alloc (.cells #[] 29)).drew.heap.size (if y.n.role=3 then dU y.n else []),NetV (w'.alloc (.cells #[] 29)).drew.heap.size (if y.n.role=3 then dU y.n else [])]
   [] [] [] (by kernel_rfl) (by kernel_rfl) ⟨iR,iR,iR,iR,iR,iR,iR,iR,NetV.rb,NetV.rb,trivial⟩ (fun i h=>by simp at h;simp[h]) ?_ ?_ ?_
  ·intro i hi j hj hne hx hd v w1 w2 hp hG hR
   cases hi
  ·refine aA ?_ (aA ?_ (aA ?_ (aA ?_ (aA ?_ (aA ?_ (aA ?_ (aA ?_ (aA ?_ (aA ?_ (eF))))))))))
   ·exact xq rfl rfl fun ev w9 v hG E pr=>by
     have e1:=E.was 0 _;simp[go_sem,e1]
   ·exact xq rfl rfl fun ev w9 v hG E pr=>by
     have e1:ev (.tmp 64)=.pointer (some ⟨b,0,none⟩):=E.tld pr 0 64;simp[go_sem,e1]
   ·exact xq rfl rfl fun ev w9 v hG E pr=>by
     have e1:ev (.tmp 65)=.pointer (some ⟨b,0,none⟩):=E.tld pr 1 65;simp[go_sem,e1]
   ·exact xq rfl rfl fun ev w9 v hG E pr=>by
     have e1:ev (.tmp 66)=.pointer (some ⟨b,0,none⟩):=E.tld pr 2 66;have cc:=(vn hD.x hG).cell (j:=0) (by omega);simp[lf]at cc;simp[go_sem,cc,e1]
   ·exact xq rfl rfl fun ev w9 v hG E pr=>by
     have e1:=E.was 3 _;simp[go_sem,e1]
   ·exact xq rfl rfl fun ev w9 v hG E pr=>by
     have e1:ev (.tmp 68)=.pointer (some ⟨w.heap.size,1,none⟩):=E.tld pr 4 68;have cc:=(vn hO hG).cell (j:=1) (by omega);simp[lf]at cc;simp[go_sem,cc,e1]
   ·exact xq rfl rfl fun ev w9 v hG E pr=>by
     have e1:ev (.tmp 67)=.slice (some ⟨g,0,none⟩) l.length cap:=E.tld pr 3 67;have e2:ev (.tmp 69)=.int .i64 (t:Int):=E.tld pr 5 69;simp[go_sem,ht0,htl,e1,e2]
   ·exact xq rfl rfl fun ev w9 v hG E pr=>by
     have e1:ev (.tmp 70)=.pointer (some ⟨g,t*10,none⟩):=E.tld pr 6 70;exact iC rfl e1 (GOwn.next hD.n hG) hy
   ·exact ExOk.call rfl fun ev w9 v hG E pr=>by
     have e1:ev (.tmp 71)=aX y.n y.s:=E.tld pr 7 71;refine⟨56,#[aX y.n y.s],by simp[go_sem,e1,E.fn],?_⟩;refine (mM y.n y.s hyz hyk.b.p (fun hr=>⟨(jN hyk.r hr).x,fun j hj=>⟨((jN hyk.r hr).r j hj).1,((jN hyk.r hr).r j hj).2.1⟩⟩) w9 (hyO.next hG).M).mono ?_;rintro e w8 ⟨v',rfl,hNv,hb⟩;exact⟨_,rfl,hb,rt _ _ _ hG hb,NetV.from hNv hG.size⟩
   ·exact ExOk.val rfl fun ev w9 v hG E pr=>⟨ev (.tmp 72),w9,by simp[go_sem],rr _,hG,E.tld pr 8 72⟩
  ·intro v8 W8 hG8 hp8
   have p9:(NetV (w'.alloc (.cells #[] 29)).drew.heap.size (if y.n.role=3 then dU y.n else [])) (v8 9) W8:=hp8 9 (by decide) (by kernel_rfl);clear hp8;simp only[bF,Nat.zero_add,Nat.reduceAdd,Act.put,sY,sZ,ss];generalize v8 9=u5 at p9 ⊢;have hC9:=hD.next hG8;have hbl9:=aN hbl hbs hG8
   have hbw:∀ m∈(if y.n.role=3 then dU y.n else []),MsW (l.length:Int) m:=by
    rw[<-hyp]
    split
    ·next hr=>exact V7 hyk hr hyt
    ·intro m hm;simp at hm
   have hbn:(if y.n.role=3 then dU y.n else []).length<=1000:=by
    split
    ·have h1:=gK y.n.id (fun k=>eK y.n (iZ y.n k) k) y.n.peers.toNat
     have hp:=hyk.b.p;unfold dU;omega
    ·simp
   have hS8:FL l.length (w'.alloc (.cells #[] 29)).drew u5 W8:=⟨_,p9,hbw,hbn⟩
   have hszW:(w'.alloc (.cells #[] 29)).drew.heap.size<=W8.heap.size:=hG8.size;clear p9 hbw hbn
   go_wp2_with fail
   refine (nD b base _ q _ cap eo ec u5 (w'.alloc (.cells #[] 29)).drew _ hWs hszW hbb hC9 hA9 hP hS8).mono ?_;rintro e w9 ⟨rfl,hS9,hbl9'⟩;go_wp2;simp[bodyPost,results,Tryz.results64,go_sem];exact⟨⟨_,rfl⟩,⟨_,hS9,rfl⟩,kQ hbl9 hbl9' hbs⟩
end
end Go.Proofs.YtbabakgjkloabaaGreatDoor
