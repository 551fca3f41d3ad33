/-
  Helpers: Dms, DrawN, Dnp.
-/
import Derived.Test.YtbabakgjkloabaaGreatDoorPack27
set_option linter.unusedVariables false
set_option linter.unusedSimpArgs false
set_option maxRecDepth 100000
set_option maxHeartbeats 16000000
namespace Go.Proofs.YtbabakgjkloabaaGreatDoor
section
open Go Go.RowKit
attribute [local go_sem ↓] Go.wp_at_zero Go.wp_at_succ
theorem O5(base c:Nat)(ao:Option Addr)(n cap:Nat)(m:Int)(hm0:1<=m)(hm:m<=100000000)(w:World)(hC:CurAt w base c ao n cap):
  Calls Tryz.prog 27 #[.pointer (some ⟨c,0,none⟩),.int .i64 m] w fun e w'=>∃ x:Nat,e=.returned (.int .i64 (x:Int))/\(x:Int)<m/\CurAt w' base c ao n cap/\w.grownBy w' (some c):=by
 by_cases hs:m<=256
 ·exact aI base c ao n cap m hm0 hs w hC
 have hm1:¬ m<=0:=by omega
 have hm2:m≠0:=by omega
 go_enter Tryz.func27,Tryz.ntmps27
 go_wp2_with fail
 refine (jJ base c ao n cap _ hC).mono ?_;rintro e w1 ⟨x,rfl,hx0,hx1,hC1,hg1⟩
 go_wp2_with fail
 refine (jJ base c ao n cap _ hC1).mono ?_;rintro e w2 ⟨y,rfl,hy0,hy1,hC2,hg2⟩
 go_wp2_with fail
 refine (jJ base c ao n cap _ hC2).mono ?_;rintro e w3 ⟨z,rfl,hz0,hz1,hC3,hg3⟩
 go_wp2_with fail
 refine (jJ base c ao n cap _ hC3).mono ?_;rintro e w4 ⟨t,rfl,ht0,ht1,hC4,hg4⟩;have e1:IntKind.i64.wrap (x*16777216)=x*16777216:=wi
 have e2:IntKind.i64.wrap (y*65536)=y*65536:=wi
 have e3:IntKind.i64.wrap (z*256)=z*256:=wi
 have e4:IntKind.i64.wrap (x*16777216+y*65536)=x*16777216+y*65536:=wi
 have e5:IntKind.i64.wrap (x*16777216+y*65536+z*256)=x*16777216+y*65536+z*256:=wi
 have e6:IntKind.i64.wrap (x*16777216+y*65536+z*256+t)=x*16777216+y*65536+z*256+t:=wi
 have hg:=((hg1.trans hg2).trans hg3).trans hg4;go_wp2;go_ret;refine⟨((x*16777216+y*65536+z*256+t)%m).toNat,?_,?_,hC4,hg⟩
 ·have h1:=Int.emod_nonneg (x*16777216+y*65536+z*256+t) hm2
  exact (congrArg (fun z=>Ending.returned (.int .i64 z)) (by omega))
 ·have h1:=Int.emod_nonneg (x*16777216+y*65536+z*256+t) hm2
  have h2:=Int.emod_lt_of_pos (x*16777216+y*65536+z*256+t) (show 0<m by omega);omega
def sE(x:Int):Prop:=-9223372036854775808<=x/\x<=9223372036854775807
structure DMs(w:World)(base c:Nat)(bo:Option Addr)(bn bc:Nat)(n:Nd)(s:NdS)(W:World):Prop where
 cur:CurAt W base c bo bn bc
 a:NdB W w.heap.size n s
 r:MsB W (w.heap.size+1) gW none 0
 gr:w.grownBy W (some c)
 lt:c<w.heap.size
section
variable {w:World} {base c:Nat} {bo:Option Addr} {bn bc:Nat} {n:Nd} {s:NdS} {W W':World}
theorem DMs.next(h:DMs w base c bo bn bc n s W)(hb:RB W W'):DMs w base c bo bn bc n s W':=⟨h.cur.next hb,vn h.a hb,vn h.r hb,h.gr.trans (eQ hb),h.lt⟩
theorem DMs.rd(h:DMs w base c bo bn bc n s W)(hC:CurAt W' base c bo bn bc)(hg:W.grownBy W' (some c)):DMs w base c bo bn bc n s W':=
 have hl:=h.lt
 ⟨hC,VHas.grown h.a hg (fun e=>by have:=oI e;omega),VHas.grown h.r hg (fun e=>by have:=oI e;omega),h.gr.trans hg,h.lt⟩
theorem DMs.put(h:DMs w base c bo bn bc n s W){row:Option Nat}(hg:W.grownBy W' row)(hx:∀ x,row=some x->w.heap.size+1<x):DMs w base c bo bn bc n s W':=
 have hl:=h.lt;have hge:=h.cur.ge
 ⟨(by
  cases row with
  | none=>exact h.cur.next ⟨hg.os,hg.tape,hg.output,hg.size,fun k hk=>hg.block k hk (by simp)⟩
  | some x=>exact h.cur.grown hg (by have:=hx x rfl;omega) (by have:=hx x rfl;omega)),VHas.grown h.a hg (fun e=>by have:=hx _ e.symm;omega),VHas.grown h.r hg (fun e=>by have:=hx _ e.symm;omega),⟨hg.os.trans h.gr.os,hg.tape.trans h.gr.tape,hg.output.trans h.gr.output,Nat.le_trans h.gr.size hg.size,fun k hk hc=>(hg.block k (Nat.lt_of_lt_of_le hk h.gr.size) (fun e=>by have:=hx k e.symm;omega)).trans (h.gr.block k hk hc)⟩,h.lt⟩
end
structure DMm(w:World)(base c:Nat)(bo:Option Addr)(bn bc:Nat)(n:Nd)(s:NdS)(bm:Nat)(m:Ms)(eo:Option Addr)(ec:Nat)(W:World):Prop where
 d:DMs w base c bo bn bc n s W
 q:MsB W bm m eo ec
 e:OwE W (w.heap.size+2) eo ec m.ents
 z:MsZ m
 x:sE m.index
 b:w.heap.size+1<bm
section
variable {w:World} {base c:Nat} {bo:Option Addr} {bn bc:Nat} {n:Nd} {s:NdS} {bm:Nat} {m:Ms} {eo:Option Addr} {ec:Nat} {W W':World}
theorem DMm.next(h:DMm w base c bo bn bc n s bm m eo ec W)(hb:RB W W'):DMm w base c bo bn bc n s bm m eo ec W':=⟨h.d.next hb,vn h.q hb,h.e.next hb,h.z,h.x,h.b⟩
theorem DMm.rd(h:DMm w base c bo bn bc n s bm m eo ec W)(hC:CurAt W' base c bo bn bc)(hg:W.grownBy W' (some c)):DMm w base c bo bn bc n s bm m eo ec W':=
 have hT:∀ x,some c=some x->aG W x 83:=fun x e=>by cases e;exact h.d.cur.typed
 ⟨h.d.rd hC hg,VHas.gr h.q hg hT (by decide),h.e.gr hg hT (by decide),h.z,h.x,h.b⟩
theorem DMm.st(h:DMm w base c bo bn bc n s bm m eo ec W){m':Ms}(v:MsB W' bm m' eo ec)(g:W.grownBy W' (some bm))(he:m'.ents=m.ents)(hx:sE m'.index):DMm w base c bo bn bc n s bm m' eo ec W':=
 ⟨h.d.put g (fun x e=>by cases e;exact h.b),v,by rw[he];exact h.e.gr g (fun x e=>by cases e;exact h.q.typed) (by decide),⟨by rw[he];exact h.z.l,by rw[he];exact h.z.x⟩,hx,h.b⟩
end
def GI(base c:Nat)(bo:Option Addr)(bn bc:Nat)(w:World)(e:Ending)(w':World):Prop:=∃ m eo ec,e=.returned (eS m eo ec)/\OwE w' w.heap.size eo ec m.ents/\MsZ m/\sE m.index/\CurAt w' base c bo bn bc/\w.grownBy w' (some c)
theorem O6{l:List En}{e:En}{N:Nat}(h:∀ k,k<l.length->(cS l k).size<=N)(he:e.x.size<=N):∀ k,k<(l++[e]).length->(cS (l++[e]) k).size<=N:=fun k hk=>by
 have hk2:k<=l.length:=by simp at hk;omega
 rw[rM l e k hk2]
 split
 ·next q=>exact h k q
 ·exact he
def TxV(v:Value)(w:World):Prop:=∃ x:ByteArray,v=.string x/\x.size<=100
def EnV(t:Int)(v:Value)(w:World):Prop:=∃ x:ByteArray,v=.agg #[.int .i64 t,.string x]/\x.size<=100
def L1e(c:Nat)(t:Int)(v:Value)(w:World):Prop:=∃ (x:ByteArray) (B:Nat),v=.slice (some ⟨B,0,none⟩) 1 1/\c<B/\VHas w B 47 2 (lf [.int .i64 t,.string x])/\x.size<=100
theorem TxV.rd{base c:Nat}{bo:Option Addr}{bn bc:Nat}(v:Value)(w w':World)(h:TxV v w)(hR:RD base c bo bn bc w w'):TxV v w':=h
theorem EnV.rd{base c:Nat}{bo:Option Addr}{bn bc:Nat}{t:Int}(v:Value)(w w':World)(h:EnV t v w)(hR:RD base c bo bn bc w w'):EnV t v w':=h
theorem L1e.rd{base c:Nat}{bo:Option Addr}{bn bc:Nat}{t:Int}(v:Value)(w w':World)(h:L1e c t v w)(hR:RD base c bo bn bc w w'):L1e c t v w':=by
 obtain⟨x,B,e,h1,h,hx⟩:=h;exact⟨x,B,e,h1,VHas.grown h hR.1 (fun q=>by have:=oI q;omega),hx⟩
def LaE(B:Nat)(l:List En)(t:Int)(v:Value)(w:World):Prop:=∃ (x:ByteArray) (a:Option Addr) (k:Nat),v=.slice a (l++[(⟨t,x⟩:En)]).length k/\OwE w B a k (l++[(⟨t,x⟩:En)])/\x.size<=100
theorem LaE.rd{base c:Nat}{bo:Option Addr}{bn bc B:Nat}{l:List En}{t:Int}(hc:c<B)(v:Value)(w w':World)(h:LaE B l t v w)(hR:RD base c bo bn bc w w'):LaE B l t v w':=by
 obtain⟨x,a,k,e,h1,h2⟩:=h
 exact⟨x,a,k,e,GOwn.grown h1 hR.1 (fun y e q=>by
  have:=(GOwn.at h1 e).1;have:=oI q
  omega),h2⟩
theorem BI{o:Oper}{ev:Operand->Value}{x y:Operand}{B c0:Nat}{l:List En}{t:Int}{ao:Option Addr}{cap:Nat}{w:World}(ho:o.op=.call { callee:=.builtin .append,args:=#[x,y],argTypes:=#[24,24] })(hx:ev x=.slice ao l.length cap)(hO:OwE w B ao cap l)(hy:L1e c0 t (ev y) w)(hl:l.length<=1000)(hb:B<=w.heap.size):
  ∃ u w',(execOp ev o).run Tryz.prog w=.ok (.value u) w'/\LaE B l t u w'/\w.grownBy w' (dI ao):=by
 obtain⟨i,D,e2,_,hD,hi⟩:=hy
 have hgr:GRow w (some ⟨D,0,none⟩) (1*2) (fun j=>if j=0 then .int .i64 t else .string i):=fun _=>⟨D,0,rfl,fun j hj=>by
  have hj2:j=0\/j=1:=by omega
  rw[Nat.zero_add];rcases hj2 with rfl|rfl
  ·have:=VHas.cell hD (j:=0) (by omega)
   simpa[lf] using this
  ·have:=VHas.cell hD (j:=1) (by omega)
   simpa[lf] using this⟩
 obtain⟨a,c,w',hrun,hown,hg,hd⟩:=lN Tryz.elEnQ w o.type B _ ao l.length cap hO (some ⟨D,0,none⟩) 1 1 _ hgr (fun j=>by split<;>rfl) (by omega) hb;rw[bK]at hg;have e0:(l++[(⟨t,i⟩:En)]).length=l.length+1:=by simp
 refine⟨_,w',dP ho hx e2 hrun,⟨i,a,c,by rw[e0],OwE.more (x:=⟨t,i⟩) (GOwn.congr hown (fun j hj=>?_)),hi⟩,hg⟩
 by_cases q:j<l.length*2
 ·rw[if_pos q,if_pos q]
 ·rw[if_neg q,if_neg q]
  have hj2:j-l.length*2=0\/j-l.length*2=1:=by rw[Nat.add_mul]at hj;omega
  rcases hj2 with h|h<;>rw[h]<;>rfl
def MvV(v:Value)(w:World):Prop:=∃ m:Ms,v=eS m none 0/\m.ents=[]/\m.index=0
theorem MvV.rb(v:Value)(w w':World)(h:MvV v w)(hb:RB w w'):MvV v w':=h
def BxQ(H:Nat)(v:Value)(w:World):Prop:=∃ b,v=.pointer (some ⟨b,0,none⟩)/\H<=b/\MsB w b gW none 0
theorem BxQ.rb{H:Nat}(v:Value)(w w':World)(h:BxQ H v w)(hb:RB w w'):BxQ H v w':=by
 obtain⟨b,e,h1,h2⟩:=h;exact⟨b,e,h1,vn h2 hb⟩
def BxP(H:Nat)(v:Value)(w:World):Prop:=∃ b m,v=.pointer (some ⟨b,0,none⟩)/\H<=b/\MsB w b m none 0/\m.ents=[]/\m.index=0
theorem BxP.rb{H:Nat}(v:Value)(w w':World)(h:BxP H v w)(hb:RB w w'):BxP H v w':=by
 obtain⟨b,m,e,h1,h2,h3⟩:=h;exact⟨b,m,e,h1,vn h2 hb,h3⟩
theorem oB(base c:Nat)(bo:Option Addr)(bn bc:Nat)(n:Nd)(s:NdS)(hz:NdZ n s)(w:World)(hC:CurAt w base c bo bn bc)(hM:NdM w n s):Calls Tryz.prog 29 #[.pointer (some ⟨c,0,none⟩),aX n s] w fun e w'=>GI base c bo bn bc w e w':=by
 obtain⟨lo,lc,vo,vc,no,nc,mo,mc⟩:=s;have hcl:=hC.lt;have hTc:∀ x,some c=some x->aG w x 83:=fun x e=>by cases e;exact hC.typed
 have hb:=rt _ _ _ (ra w (.cells (aJ n ⟨lo,lc,vo,vc,no,nc,mo,mc⟩).toArray 27)) (ra _ (.cells (bZ gW none 0).toArray 29));have vA:NdB _ w.heap.size n ⟨lo,lc,vo,vc,no,nc,mo,mc⟩:=(aH w n _).next (ra _ (.cells (bZ gW none 0).toArray 29));have vR:=bJ (w.alloc (.cells (aJ n ⟨lo,lc,vo,vc,no,nc,mo,mc⟩).toArray 27)) gW none 0;rw[World.size_alloc]at vR;have hD0:DMs w base c bo bn bc n ⟨lo,lc,vo,vc,no,nc,mo,mc⟩ _:=⟨hC.next hb,vA,vR,eQ hb,hcl⟩
 clear vA vR hb hC;go_enter Tryz.func29,Tryz.ntmps29;refine aW fun K0 hK0=>?_
 go_wp2;refine hK0.out _ _ ?_;clear hK0;generalize ((w.alloc _).alloc _)=W at hD0 ⊢
 go_upto_region 1 with fail
 have hD:=hD0.next (show RB W W.drew from (Below.refl _ _).drew);have hsW:w.heap.size+1<W.drew.heap.size:=hD.r.lt;clear hD0
 refine eG (by kernel_rfl) (by kernel_rfl) (by kernel_rfl) (fun W5=>DMs w base c bo bn bc n ⟨lo,lc,vo,vc,no,nc,mo,mc⟩ W5/\W.drew.heap.size<=W5.heap.size) ⟨hD,Nat.le_refl _⟩ (fun i=>if i=1 then RD base c bo bn bc else if i=6 then RD base c bo bn bc else if i=10 then RD base c bo bn bc else if i=15 then fun u v=>∃ b,u.grownBy v (some b)/\aG u b 29/\W.drew.heap.size<=b else RB) [1,6,10,15]
  [isV (.pointer (some ⟨c,0,none⟩)),IvV,IvV,isV (.pointer (some ⟨w.heap.size,2,none⟩)),isV (.int .i64 n.term),isV (.pointer (some ⟨c,0,none⟩)),IvV,IvV,IvV,isV (.pointer (some ⟨c,0,none⟩)),IvV,isV (.pointer (some ⟨w.heap.size,0,none⟩)),isV (.int .i64 n.id),MvV,BxQ W.drew.heap.size,BxP W.drew.heap.size]
  [(14,15)] [(15,14)] [(15,1),(15,6),(15,10)] (by kernel_rfl) (by kernel_rfl) ⟨iR,IvV.rb,IvV.rb,iR,iR,iR,IvV.rb,IvV.rb,IvV.rb,iR,IvV.rb,iR,iR,MvV.rb,BxQ.rb,BxP.rb,trivial⟩ (fun i h=>by simp at h;simp[h]) ?_ ?_ ?_
 ·intro i hi j hj hne hx hd v w1 w2 hp hG hR
  simp only[List.mem_cons,List.not_mem_nil,or_false]at hi;rcases hi with rfl|rfl|rfl|rfl
  ·have hj2:j<16:=hj
   have hj3:j=0\/j=1\/j=2\/j=3\/j=4\/j=5\/j=6\/j=7\/j=8\/j=9\/j=10\/j=11\/j=12\/j=13\/j=14\/j=15:=by omega
   rcases hj3 with rfl|rfl|rfl|rfl|rfl|rfl|rfl|rfl|rfl|rfl|rfl|rfl|rfl|rfl|rfl|rfl
   ·exact hp
   ·exact absurd rfl hne
   ·exact hp
   ·exact hp
   ·exact hp
   ·exact hp
   ·exact hp
   ·exact hp
   ·exact hp
   ·exact hp
   ·exact hp
   ·exact hp
   ·exact hp
   ·exact hp
   ·obtain⟨b4,e,h1,h2⟩:=hp
    exact⟨b4,e,h1,VHas.gr h2 hR.1 (fun x e=>by cases e;exact hG.1.cur.typed) (by decide)⟩
   ·exact absurd (by simp) hd
  ·have hj2:j<16:=hj
   have hj3:j=0\/j=1\/j=2\/j=3\/j=4\/j=5\/j=6\/j=7\/j=8\/j=9\/j=10\/j=11\/j=12\/j=13\/j=14\/j=15:=by omega
   rcases hj3 with rfl|rfl|rfl|rfl|rfl|rfl|rfl|rfl|rfl|rfl|rfl|rfl|rfl|rfl|rfl|rfl
   ·exact hp
   ·exact hp
   ·exact hp
   ·exact hp
   ·exact hp
   ·exact hp
   ·exact absurd rfl hne
   ·exact hp
   ·exact hp
   ·exact hp
   ·exact hp
   ·exact hp
   ·exact hp
   ·exact hp
   ·obtain⟨b4,e,h1,h2⟩:=hp
    exact⟨b4,e,h1,VHas.gr h2 hR.1 (fun x e=>by cases e;exact hG.1.cur.typed) (by decide)⟩
   ·exact absurd (by simp) hd
  ·have hj2:j<16:=hj
   have hj3:j=0\/j=1\/j=2\/j=3\/j=4\/j=5\/j=6\/j=7\/j=8\/j=9\/j=10\/j=11\/j=12\/j=13\/j=14\/j=15:=by omega
   rcases hj3 with rfl|rfl|rfl|rfl|rfl|rfl|rfl|rfl|rfl|rfl|rfl|rfl|rfl|rfl|rfl|rfl
   ·exact hp
   ·exact hp
   ·exact hp
   ·exact hp
   ·exact hp
   ·exact hp
   ·exact hp
   ·exact hp
   ·exact hp
   ·exact hp
   ·exact absurd rfl hne
   ·exact hp
   ·exact hp
   ·exact hp
   ·obtain⟨b4,e,h1,h2⟩:=hp
    exact⟨b4,e,h1,VHas.gr h2 hR.1 (fun x e=>by cases e;exact hG.1.cur.typed) (by decide)⟩
   ·exact absurd (by simp) hd
  ·have hj2:j<16:=hj
   have hj3:j=0\/j=1\/j=2\/j=3\/j=4\/j=5\/j=6\/j=7\/j=8\/j=9\/j=10\/j=11\/j=12\/j=13\/j=14\/j=15:=by omega
   rcases hj3 with rfl|rfl|rfl|rfl|rfl|rfl|rfl|rfl|rfl|rfl|rfl|rfl|rfl|rfl|rfl|rfl
   ·exact hp
   ·exact hp
   ·exact hp
   ·exact hp
   ·exact hp
   ·exact hp
   ·exact hp
   ·exact hp
   ·exact hp
   ·exact hp
   ·exact hp
   ·exact hp
   ·exact hp
   ·exact hp
   ·exact absurd rfl hx
   ·exact absurd rfl hne
 ·refine aA ?_ (aA ?_ (aA ?_ (aA ?_ (aA ?_ (aA ?_ (aA ?_ (aA ?_ (aA ?_ (aA ?_ (aA ?_ (aA ?_ (aA ?_ (aA ?_ (aA ?_ (aA ?_ (eF))))))))))))))))
  ·exact xq rfl rfl fun ev w9 v hG E pr=>by
    have e1:=E.was 0 _;simp[go_sem,e1]
  ·exact ExOk.call rfl fun ev w9 v hG E pr=>by
    have e1:ev (.tmp 7)=.pointer (some ⟨c,0,none⟩):=E.tld pr 0 7;refine⟨27,#[.pointer (some ⟨c,0,none⟩),.int .i64 4],by simp[go_sem,e1,E.con,E.fn],?_⟩;refine (aI base c bo bn bc 4 (by omega) (by omega) w9 hG.1.cur).mono ?_;rintro e w8 ⟨x,rfl,hx,hC8,hg8⟩;exact⟨_,rfl,⟨hg8,fun _=>hC8⟩,⟨hG.1.rd hC8 hg8,Nat.le_trans hG.2 hg8.size⟩,x,rfl⟩
  ·exact ExOk.val rfl fun ev w9 v hG E pr=>by
    obtain⟨x,e1⟩:IvV (ev (.tmp 8)) w9:=E.tld pr 1 8;exact⟨.int .i64 (IntKind.i64.wrap (1+x)),w9,by simp[go_sem,e1,E.con],rr _,hG,_,rfl⟩
  ·exact xq rfl rfl fun ev w9 v hG E pr=>by
    have e1:=E.was 3 _;simp[go_sem,e1]
  ·exact xq rfl rfl fun ev w9 v hG E pr=>by
    have e1:ev (.tmp 10)=.pointer (some ⟨w.heap.size,2,none⟩):=E.tld pr 3 10;have cc:=VHas.cell hG.1.a (j:=2) (by omega);simp[lf]at cc;simp[go_sem,cc,e1]
  ·exact xq rfl rfl fun ev w9 v hG E pr=>by
    have e1:=E.was 0 _;simp[go_sem,e1]
  ·exact ExOk.call rfl fun ev w9 v hG E pr=>by
    have e1:ev (.tmp 12)=.pointer (some ⟨c,0,none⟩):=E.tld pr 5 12;refine⟨68,#[.pointer (some ⟨c,0,none⟩),.int .i64 (-1),.int .i64 2],by simp[go_sem,e1,E.con,E.fn],?_⟩;refine (pO (-1) 2 (by omega) (by omega) base c bo bn bc w9 hG.1.cur).mono ?_;rintro e w8 ⟨x,rfl,hx,hC8,hg8⟩;exact⟨_,rfl,⟨hg8,fun _=>hC8⟩,⟨hG.1.rd hC8 hg8,Nat.le_trans hG.2 hg8.size⟩,x,rfl⟩
  ·exact ExOk.val rfl fun ev w9 v hG E pr=>by
    obtain⟨x,e2⟩:IvV (ev (.tmp 13)) w9:=E.tld pr 6 13;have e1:ev (.tmp 11)=.int .i64 n.term:=E.tld pr 4 11;exact⟨.int .i64 (IntKind.i64.wrap (n.term+x)),w9,by simp[go_sem,e1,e2],rr _,hG,_,rfl⟩
  ·exact ExOk.call rfl fun ev w9 v hG E pr=>by
    obtain⟨x,e1⟩:IvV (ev (.tmp 14)) w9:=E.tld pr 7 14;refine⟨69,#[.int .i64 1,.int .i64 x],by simp[go_sem,e1,E.con,E.fn],?_⟩;refine (jH 1 x w9).mono ?_;rintro e w8 ⟨rfl,hb⟩;exact⟨_,rfl,hb,⟨hG.1.next hb,Nat.le_trans hG.2 hb.size⟩,_,rfl⟩
  ·exact xq rfl rfl fun ev w9 v hG E pr=>by
    have e1:=E.was 0 _;simp[go_sem,e1]
  ·exact ExOk.call rfl fun ev w9 v hG E pr=>by
    have e1:ev (.tmp 16)=.pointer (some ⟨c,0,none⟩):=E.tld pr 9 16;refine⟨27,#[.pointer (some ⟨c,0,none⟩),.int .i64 3],by simp[go_sem,e1,E.con,E.fn],?_⟩;refine (aI base c bo bn bc 3 (by omega) (by omega) w9 hG.1.cur).mono ?_;rintro e w8 ⟨x,rfl,hx,hC8,hg8⟩;exact⟨_,rfl,⟨hg8,fun _=>hC8⟩,⟨hG.1.rd hC8 hg8,Nat.le_trans hG.2 hg8.size⟩,x,rfl⟩
  ·exact xq rfl rfl fun ev w9 v hG E pr=>by
    have e1:=E.was 3 _;simp[go_sem,e1]
  ·exact xq rfl rfl fun ev w9 v hG E pr=>by
    have e1:ev (.tmp 18)=.pointer (some ⟨w.heap.size,0,none⟩):=E.tld pr 11 18;have cc:=VHas.cell hG.1.a (j:=0) (by omega);simp[lf]at cc;simp[go_sem,cc,e1]
  ·exact ExOk.val rfl fun ev w9 v hG E pr=>by
    obtain⟨k,e1⟩:IvV (ev (.tmp 9)) w9:=E.tld pr 2 9;obtain⟨t,e2⟩:IvV (ev (.tmp 15)) w9:=E.tld pr 8 15;obtain⟨f,e3⟩:IvV (ev (.tmp 17)) w9:=E.tld pr 10 17;have e4:ev (.tmp 19)=.int .i64 n.id:=E.tld pr 12 19;exact⟨eS ⟨k,t,f,n.id,0,0,[],0,false⟩ none 0,w9,(by (simp[go_sem,e1,e2,e3,e4])<;>rfl),rr _,hG,⟨k,t,f,n.id,0,0,[],0,false⟩,rfl,rfl,rfl⟩
  ·exact ExOk.val rfl fun ev w9 v hG E pr=>⟨.pointer (some ⟨w9.heap.size,0,none⟩),w9.alloc (.cells (bZ gW none 0).toArray 29),(by (simp[go_sem])<;>rfl),ra _ _,⟨hG.1.next (ra _ _),by rw[World.size_alloc];exact Nat.le_succ_of_le hG.2⟩,w9.heap.size,rfl,hG.2,bJ w9 gW none 0⟩
  ·exact ExOk.skip rfl (by decide) fun ev w9 v hG E pr=>by
    obtain⟨b5,e1,hb5,vB⟩:BxQ W.drew.heap.size (ev (.tmp 5)) w9:=E.tld pr 14 5;obtain⟨m,e2,h1,h2⟩:MvV (ev (.tmp 20)) w9:=E.tld pr 13 20;have hg:w9.grownBy (setL w9 b5 0 (bZ m none 0)) (some b5):=bP _ _ 0 _;have e3:v 14=ev (.tmp 5):=(E.at_ 14 5 rfl (by kernel_rfl) (nb (by kernel_rfl))).symm
    have h15:BxP W.drew.heap.size (v 14) (setL w9 b5 0 (bZ m none 0)):=by
     rw[e3];exact⟨b5,m,e1,hb5,bE _ vB,h1,h2⟩
    exact⟨_,bU (bZ m none 0) rfl e1 e2 vB (by kernel_rfl) (cD (by kernel_rfl)),⟨b5,hg,VHas.typed vB,hb5⟩,⟨hG.1.put hg (fun x e=>by cases e;omega),Nat.le_trans hG.2 hg.size⟩,h15⟩
 ·intro v8 W8 hG8 hp8
  have p15:(BxP W.drew.heap.size) (v8 14) W8:=hp8 15 (by decide) (by kernel_rfl);clear hp8;obtain⟨bm,m,e14,hbm,vm,hme,hmi⟩:BxP W.drew.heap.size (v8 14) W8:=p15;simp only[bF,Nat.zero_add,Nat.reduceAdd,Act.put,sY,sZ,ss,e14];have h1:DMm w base c bo bn bc n ⟨lo,lc,vo,vc,no,nc,mo,mc⟩ bm m none 0 W8:=⟨hG8.1,vm,by rw[hme];exact GOwn.nil _ _ _ _ _,⟨by rw[hme];simp,by rw[hme];simp⟩,by rw[hmi];unfold sE;omega,by omega⟩
  have hsW8:=hG8.2;clear hG8 vm hme hmi hbm hD;obtain⟨f0,f1,f2,f3,f4,f5,f6,f7,f8,f9⟩:=cN h1.d.a;have hll:=hz.l;have hwl:IntKind.i64.wrap ((n.log.length:Int)+2)=(n.log.length:Int)+2:=wi
  go_wp2_with fail
  clear f0 f1 f2 f3 f4 f5 f6 f7 f8 f9;refine (O5 base c bo bn bc ((n.log.length:Int)+2) (by omega) (by omega) _ h1.d.cur).mono ?_;rintro e w2 ⟨x2,rfl,hx2,hc9,hg9⟩;have h2:=h1.rd hc9 hg9;clear hc9 hg9
  go_upto_region 3 with (first|((with_reducible refine dM rfl 2 (.tmp 27) (.tmp 26) rfl rfl (bm) 4 (.int .i64 (x2:Int)) (by simp[go_sem]) (by simp[go_sem]) ((⟨m.kind,m.term,m.frm,m.to,(x2:Int),m.lterm,m.ents,m.commit,m.yes⟩:Ms)) (none) (0) h2.q (by omega) (by kernel_rfl) (by kernel_rfl) (dT (by kernel_rfl)) (by kernel_rfl) ?_);intro W3 v3 g3)|fail)
  have h3:=h2.st v3 g3 rfl (by show sE (x2:Int);unfold sE;omega);generalize (⟨m.kind,m.term,m.frm,m.to,(x2:Int),m.lterm,m.ents,m.commit,m.yes⟩:Ms)=m3 at h3;clear h1 h2 v3 g3 hwl
  go_wp2_with fail
  refine (aI base c bo bn bc 4 (by omega) (by omega) _ h3.d.cur).mono ?_;rintro e w4 ⟨x4,rfl,hx4,hc9,hg9⟩;have h4:=h3.rd hc9 hg9;clear hc9 hg9
  go_upto_region 4 with (first|((with_reducible refine dM rfl 2 (.tmp 30) (.tmp 29) rfl rfl (bm) 5 (.int .i64 (x4:Int)) (by simp[go_sem]) (by simp[go_sem]) ((⟨m3.kind,m3.term,m3.frm,m3.to,m3.index,(x4:Int),m3.ents,m3.commit,m3.yes⟩:Ms)) (none) (0) h4.q (by omega) (by kernel_rfl) (by kernel_rfl) (dT (by kernel_rfl)) (by kernel_rfl) ?_);intro W5 v5 g5)|fail)
  have h5:=h4.st v5 g5 rfl h4.x;generalize (⟨m3.kind,m3.term,m3.frm,m3.to,m3.index,(x4:Int),m3.ents,m3.commit,m3.yes⟩:Ms)=m5 at h5;clear h3 h4 v5 g5
  go_cut [41] from 31 to 31 (fun x wc=>∃ b:Bool,x=.bool b/\(b=true->1<=m5.index/\m5.index<=(n.log.length:Int))/\DMm w base c bo bn bc n ⟨lo,lc,vo,vc,no,nc,mo,mc⟩ bm m5 none 0 wc)
  case first=>
   obtain⟨f0,f1,f2,f3,f4,f5,f6,f7,f8,f9⟩:=cN h5.d.a;obtain⟨g0,g1,g2,g3,g4,g5,g6,g7,g8⟩:=cM h5.q
   go_wp2_with fail
   clear f0 f1 f2 f3 f4 f5 f6 f7 f8 f9 g0 g1 g2 g3 g4 g5 g6 g7 g8;refine (bS m5.index 1 (n.log.length:Int) _).mono ?_;rintro e w6 ⟨rfl,hb6⟩;have h6:=h5.next hb6;clear h5 hb6;rcases bq (dD m5.index 1 (n.log.length:Int)) with hB|hB
   rotate_left
   ·rw[hB]
    clear hB;go_wp2
    go_meet
    case rel=>exact⟨false,rfl,fun q=>(Bool.noConfusion q),h6⟩
   rw[hB];rw[oY]at hB;have hBI:=of_decide_eq_true hB;clear hB
   go_wp2_with fail
   refine (dA base c bo bn bc 3 (by omega) (by omega) _ h6.d.cur).mono ?_;rintro e w7 ⟨bb,rfl,hc9,hg9⟩;have h7:=h6.rd hc9 hg9;clear hc9 hg9;go_wp2
   go_meet
   case rel=>exact⟨!bb,rfl,fun _=>hBI,h7⟩
  case rest=>
   clear h5;obtain⟨b,rfl,hbI,h5⟩:=hcut
   go_upto_if 41 with fail
   go_cut [] from 41 to 41 (fun wc=>∃ m,DMm w base c bo bn bc n ⟨lo,lc,vo,vc,no,nc,mo,mc⟩ bm m none 0 wc)
   case first=>
    cases b
    ·go_wp2
     go_meet
     case rel=>exact⟨m5,h5⟩
    have hI:=hbI rfl;clear hbI;obtain⟨k,hk⟩:∃ k:Nat,m5.index=(k:Int)+1:=⟨(m5.index-1).toNat,by omega⟩
    have hkl:k<n.log.length:=by omega
    obtain⟨gl,ol,eg,_,hcl⟩:=(hM.gr h5.d.gr hTc (by decide) (by decide)).l (fun q=>by
     have:=dE n.log;have q':dZ n.log=[]:=q;rw[q']at this;simp at this
     omega)
    have eg':lo=some ⟨gl,ol,none⟩:=eg;subst eg';have cc:=hcl _ _ (lO hkl).1;clear hcl;obtain⟨f0,f1,f2,f3,f4,f5,f6,f7,f8,f9⟩:=cN h5.d.a;obtain⟨g0,g1,g2,g3,g4,g5,g6,g7,g8⟩:=cM h5.q;rw[hk]at g4;have hw1:IntKind.i64.wrap ((k:Int)+1-1)=(k:Int):=wi
    have hk0:(0:Int)<=(k:Int):=by omega
    have hkn:(k:Int)<(n.log.length:Int):=by omega
    clear hI
    go_wp2_with (first|((with_reducible refine dM rfl 2 (.tmp 50) (.tmp 49) rfl rfl (bm) 5 (.int .i64 (cL n.log k)) (by simp[go_sem]) (by simp[go_sem]) ((⟨m5.kind,m5.term,m5.frm,m5.to,m5.index,(cL n.log k),m5.ents,m5.commit,m5.yes⟩:Ms)) (none) (0) h5.q (by omega) (by kernel_rfl) (by kernel_rfl) (dT (by kernel_rfl)) (by kernel_rfl) ?_);intro W6 v6 g6)|fail)
    go_meet
    case rel=>exact⟨_,h5.st v6 g6 rfl h5.x⟩
   case rest=>
    clear h5 hbI m5;obtain⟨m5,h5⟩:=hcut
    go_wp2_with fail
    refine (dA base c bo bn bc 3 (by omega) (by omega) _ h5.d.cur).mono ?_;rintro e w6 ⟨b6,rfl,hc9,hg9⟩;have h6:=h5.rd hc9 hg9;clear hc9 hg9
    go_upto_region 7 with (first|((with_reducible refine dM rfl 4 (.tmp 54) (.tmp 53) rfl rfl (bm) 8 (.bool (!b6)) (by simp[go_sem]) (by simp[go_sem]) ((⟨m5.kind,m5.term,m5.frm,m5.to,m5.index,m5.lterm,m5.ents,m5.commit,(!b6)⟩:Ms)) (none) (0) h6.q (by omega) (by kernel_rfl) (by kernel_rfl) (dT (by kernel_rfl)) (by kernel_rfl) ?_);intro W7 v7 g7)|fail)
    have h7:=h6.st v7 g7 rfl h6.x;generalize (⟨m5.kind,m5.term,m5.frm,m5.to,m5.index,m5.lterm,m5.ents,m5.commit,(!b6)⟩:Ms)=m7 at h7;clear h5 h6 v7 g7;obtain⟨g0,g1,g2,g3,g4,g5,g6,g7,g8⟩:=cM h7.q
    go_upto_if 57 with fail
    go_cut [] from 55 to 57 (fun wc=>∃ m eo ec,DMm w base c bo bn bc n ⟨lo,lc,vo,vc,no,nc,mo,mc⟩ bm m eo ec wc)
    case first=>
     by_cases hk:m7.kind=3
     rotate_left
     ·have hk':(m7.kind==3)=false:=by simp[hk]
      clear hk;go_wp2
      go_meet
      case rel=>exact⟨m7,none,0,h7⟩
     have hk':(m7.kind==3)=true:=by simp[hk]
     clear hk
     go_upto_if 60 with fail
     go_cut [55,56,57] from 58 to 60 (fun _ _ _ wc=>∃ m,DMm w base c bo bn bc n ⟨lo,lc,vo,vc,no,nc,mo,mc⟩ bm m none 0 wc)
     case first=>
      by_cases hi:m7.index=0
      ·have hi':(m7.index==0)=true:=by simp[hi]
       clear hi
       go_wp2_with (first|((with_reducible refine dM rfl 2 (.tmp 61) (.const (.int .i64 0)) rfl rfl (bm) 5 (.int .i64 0) (by simp[go_sem]) (by simp[go_sem]) ((⟨m7.kind,m7.term,m7.frm,m7.to,m7.index,0,m7.ents,m7.commit,m7.yes⟩:Ms)) (none) (0) h7.q (by omega) (by kernel_rfl) (by kernel_rfl) (dT (by kernel_rfl)) (by kernel_rfl) ?_);intro W8 v8 g8)|fail)
       go_meet
       case rel=>exact⟨_,h7.st v8 g8 rfl h7.x⟩
      ·have hi':(m7.index==0)=false:=by simp[hi]
       clear hi;go_wp2
       go_meet
       case rel=>exact⟨m7,h7⟩
     case rest=>
      clear h7 g0 g1 g2 g3 g4 g5 g6 g7 g8;obtain⟨m8,h7⟩:=hcut
      go_wp2_with fail
      refine (aI base c bo bn bc 3 (by omega) (by omega) _ h7.d.cur).mono ?_;rintro e w8 ⟨x8,rfl,hx8,hc9,hg9⟩;have h8:=h7.rd hc9 hg9;clear hc9 hg9
      have he8:m8.ents.length=0:=by
       have:=GOwn.cap h8.e;omega
      clear h7
      go_wp2_with fail
      go_loopw [6] (fun x6 wr=>∃ (y:Nat) (m:Ms) (eo:Option Addr) (ec:Nat),x6=.int .i64 (y:Int)/\y+m.ents.length<=2/\DMm w base c bo bn bc n ⟨lo,lc,vo,vc,no,nc,mo,mc⟩ bm m eo ec wr) (fun x _=>(intOf x).toNat)
      case atStart=>exact⟨x8,m8,none,0,rfl,by omega,h8⟩
      case round=>
       clear h8 he8 hx8;obtain⟨y,m,eo,ec,rfl,hy,h9⟩:=hrel
       by_cases hlt:0<y
       rotate_left
       ·obtain rfl:y=0:=by omega
        clear hlt
        go_wp2_with fail
        refine (aI base c bo bn bc 6 (by omega) (by omega) _ h9.d.cur).mono ?_;rintro e wA ⟨xA,rfl,hxA,hc9,hg9⟩;have hA:=h9.rd hc9 hg9;clear hc9 hg9
        go_wp2_with (first|((with_reducible refine dM rfl 2 (.tmp 80) (.tmp 79) rfl rfl (bm) 7 (.int .i64 (xA:Int)) (by simp[go_sem]) (by simp[go_sem]) ((⟨m.kind,m.term,m.frm,m.to,m.index,m.lterm,m.ents,(xA:Int),m.yes⟩:Ms)) (eo) (ec) hA.q (by omega) (by kernel_rfl) (by kernel_rfl) (dT (by kernel_rfl)) (by kernel_rfl) ?_);intro WB vB gB)|fail)
        go_meet
        case rel=>exact⟨_,eo,ec,hA.st vB gB rfl hA.x⟩
       have hlt':(0:Int)<(y:Int):=by omega
       go_wp2_with fail
       have hcB:c<w.heap.size+2:=by omega
       have h9b:=h9.b;have h9x:=h9.x;have h9z:=h9.z.x;have hd:RB wr wr.drew:=(Below.refl _ _).drew;have hDD:∀ W',RD base c bo bn bc wr.drew W'->DMm w base c bo bn bc n ⟨lo,lc,vo,vc,no,nc,mo,mc⟩ bm m eo ec W':=fun W' q=>(h9.next hd).rd (q.2 (h9.next hd).d.cur) q.1
       clear hd
       refine mY (by kernel_rfl) (by kernel_rfl) (by kernel_rfl) (RD base c bo bn bc) RD.refl RD.trans 8 [0,1,2,3,4,5,6,7] [9] (by kernel_rfl) (by kernel_rfl) (fun _ _=>True)
        (fun W5=>DMs w base c bo bn bc n ⟨lo,lc,vo,vc,no,nc,mo,mc⟩ W5/\MsB W5 bm m eo ec)
        (fun a9 b9 h hb=>⟨h.1.rd (hb.2 h.1.cur) hb.1,VHas.gr h.2 hb.1 (fun x e=>by cases e;exact h.1.cur.typed) (by decide)⟩)
        [isV (.pointer (some ⟨bm,6,none⟩)),isV (.slice eo m.ents.length ec),isV (.pointer (some ⟨bm,1,none⟩)),isV (.int .i64 m.term),isV (.pointer (some ⟨c,0,none⟩)),TxV,EnV m.term,L1e c m.term,LaE (w.heap.size+2) m.ents m.term,isV (.pointer (some ⟨bm,6,none⟩))]
        ⟨isV.rd,isV.rd,isV.rd,isV.rd,isV.rd,TxV.rd,EnV.rd,L1e.rd,(LaE.rd hcB),isV.rd,trivial⟩ rfl ?_ ?_ ?_ ?_ _ rfl rfl rfl
        (fun v9 W9=>∃ xe a k,DMm w base c bo bn bc n ⟨lo,lc,vo,vc,no,nc,mo,mc⟩ bm (⟨m.kind,m.term,m.frm,m.to,m.index,m.lterm,m.ents++[⟨m.term,xe⟩],m.commit,m.yes⟩:Ms) a k W9) ?_ ?_
       ·intro i hi v w1 w2 h hx
        simp only[List.mem_cons,List.not_mem_nil,or_false]at hi;rcases hi with rfl
        exact h
       ·intro i hi o ho
        simp only[List.mem_cons,List.not_mem_nil,or_false]at hi;rcases hi with rfl|rfl|rfl|rfl|rfl|rfl|rfl|rfl<;>(obtain rfl:=oI ho)
        ·exact OpOk.get RD.refl _ (fun _=>rfl) fun ev w9 v hR E pr=>by
          have e1:=E.was 5 _;simp[go_sem,e1]
        ·exact OpOk.get RD.refl _ (fun _=>rfl) fun ev w9 v hR E pr=>by
          have e1:=E.eq pr 0 68;have cc:=VHas.cell (hDD w9 hR).q (j:=6) (by omega);simp[lf]at cc;simp[go_sem,cc,e1]
        ·exact OpOk.get RD.refl _ (fun _=>rfl) fun ev w9 v hR E pr=>by
          have e1:=E.was 5 _;simp[go_sem,e1]
        ·exact OpOk.get RD.refl _ (fun _=>rfl) fun ev w9 v hR E pr=>by
          have e1:=E.eq pr 2 70;have cc:=VHas.cell (hDD w9 hR).q (j:=1) (by omega);simp[lf]at cc;simp[go_sem,cc,e1]
        ·exact OpOk.get RD.refl _ (fun _=>rfl) fun ev w9 v hR E pr=>by
          have e1:=E.was 0 _;simp[go_sem,e1]
        ·refine OpOk.call rfl fun ev w9 v hR E pr=>?_
         have e1:=E.eq pr 4 72;refine⟨57,#[.pointer (some ⟨c,0,none⟩)],by simp[go_sem,e1,E.con,E.fn],?_⟩;refine (fW base c bo bn bc w9 (hDD w9 hR).d.cur).mono ?_;rintro e w8 ⟨x,rfl,hx,hC8,hg8⟩;exact⟨_,rfl,⟨hg8,fun _=>hC8⟩,x,rfl,hx⟩
        ·refine OpOk.val rfl fun ev w9 v hR E pr=>?_
         obtain⟨x,e2,hx⟩:TxV (ev (.tmp 73)) w9:=E.get pr 5 73;have e1:=E.eq pr 3 71;exact⟨.agg #[.int .i64 m.term,.string x],w9,(by (simp[go_sem,e1,e2])<;>rfl),RD.refl _,x,rfl,hx⟩
        ·refine OpOk.val rfl fun ev w9 v hR E pr=>?_
         obtain⟨x,e1,hx⟩:EnV m.term (ev (.tmp 74)) w9:=E.get pr 6 74;exact⟨.slice (some ⟨w9.heap.size,0,none⟩) 1 1,w9.alloc (.cells #[.int .i64 m.term,.string x] 47),(by (simp[go_sem,e1])<;>rfl),RD.rb (ra _ _),x,w9.heap.size,rfl,(by have:=(hDD w9 hR).d.r.lt;omega),bH w9 [.int .i64 m.term,.string x] 47,hx⟩
       ·intro i h1 h2 h3 o ho
        have hc3:i=9:=by
         simp at h1 h3;omega
        subst hc3;obtain rfl:=oI ho
        exact LateOkR.get RD.refl _ (fun _=>rfl) fun ev w9 v hR E pr=>by
          have e1:=E.was 5 _;simp[go_sem,e1]
       ·intro o ho
        obtain rfl:=oI ho;refine MidOkR.val fun ev w9 v hR E pr=>?_
        have e1:=E.eq pr 1 69;have e2:L1e c m.term (ev (.tmp 75)) w9:=E.get pr 7 75;have h9:=hDD w9 hR;have hs9:=h9.d.r.lt;refine iY (BI rfl e1 h9.e e2 (by omega) (by omega)) ?_;rintro u w8 ⟨hu,hg⟩;have hT:∀ z,dI eo=some z->aG w9 z 47:=fun z e=>GOwn.typed h9.e (x:=z) (by rw[bK];exact e)
        exact⟨trivial,⟨h9.d.put hg (fun z e=>by have:=(GOwn.at h9.e (x:=z) (by rw[bK];exact e)).1;omega),VHas.gr h9.q hg hT (by decide)⟩,hu⟩
       ·rintro ev w9 v ⟨hP1,vQ⟩ E hk9
        have k1:=hk9 9 (by simp);have k2:=hk9 8 (by simp);have E1:=E.at_ 9 77 rfl (by kernel_rfl) (nb (by kernel_rfl));have E2:=E.at_ 8 76 rfl (by kernel_rfl) (nb (by kernel_rfl));obtain⟨xe,a,k,e5,h5,h6⟩:LaE (w.heap.size+2) m.ents m.term (v 8) w9:=k2;have e6:v 9=.pointer (some ⟨bm,6,none⟩):=k1;rw[e6]at E1;rw[e5]at E2;have g9:=aC w9 bm 6 (.slice a (m.ents++[(⟨m.term,xe⟩:En)]).length k);exact⟨_,cI rfl E1 E2 vQ (by omega) (by kernel_rfl) rfl (dT rfl),fun _ _=>⟨xe,a,k,hP1.put g9 (fun x e=>by cases e;exact h9b),MsB.put vQ 6 (by omega) _ rfl,h5.gr g9 (fun x e=>by cases e;exact VHas.typed vQ) (by decide),⟨by show (m.ents ++ _).length<=1048576;rw[List.length_append,List.length_singleton];omega,O6 h9z (Nat.le_trans h6 (by omega))⟩,h9x,h9b⟩⟩
       ·intro v9 W9 hF9
        simp only[bF,Nat.zero_add,Nat.reduceAdd,Act.put,sY,sZ,ss];obtain⟨xe,a,k,hF⟩:=hF9;clear hDD;have hwy:IntKind.i64.wrap ((y:Int)-1)=((y-1:Nat):Int):=wi
        go_wp2
        go_roundw
        case rel=>exact⟨y-1,(⟨m.kind,m.term,m.frm,m.to,m.index,m.lterm,m.ents++[⟨m.term,xe⟩],m.commit,m.yes⟩:Ms),a,k,rfl,by show y-1+(m.ents ++ _).length<=2;rw[List.length_append,List.length_singleton];omega,hF⟩
        case measure=>simp[intOf];omega
    case rest=>
     clear h7 g0 g1 g2 g3 g4 g5 g6 g7 g8;obtain⟨m,eo,ec,h7⟩:=hcut
     go_wp2_with fail
     refine (dA base c bo bn bc 16 (by omega) (by omega) _ h7.d.cur).mono ?_;rintro e w8 ⟨b8,rfl,hc9,hg9⟩;have h8:=h7.rd hc9 hg9;clear hc9 hg9;clear h7
     go_upto_if 82 with fail
     go_cut [] from 81 to 82 (fun wc=>∃ m eo ec,DMm w base c bo bn bc n ⟨lo,lc,vo,vc,no,nc,mo,mc⟩ bm m eo ec wc)
     case first=>
      cases b8
      ·go_wp2
       go_meet
       case rel=>exact⟨m,eo,ec,h8⟩
      go_wp2_with fail
      refine (aI base c bo bn bc 6 (by omega) (by omega) _ h8.d.cur).mono ?_;rintro e w9 ⟨x,rfl,hx,hc9,hg9⟩;have h9:=h8.rd hc9 hg9;clear hc9 hg9;clear h8;have hxx:x=0\/x=1\/x=2\/x=3\/x=4\/x=5:=by omega
      rcases hxx with rfl|rfl|rfl|rfl|rfl|rfl
      ·have hal:=ra w9 (.cells #[.int .i64 0,.int .i64 5,.int .i64 (-1)] 2)
       replace h9:=h9.next hal;have hcs:VHas (w9.alloc (.cells #[.int .i64 0,.int .i64 5,.int .i64 (-1)] 2)) w9.heap.size 2 3 (lf [.int .i64 0,.int .i64 5,.int .i64 (-1)]):=bH w9 [.int .i64 0,.int .i64 5,.int .i64 (-1)] 2;clear hal
       go_wp2_with fail
       refine (aI base c bo bn bc 3 (by omega) (by omega) _ h9.d.cur).mono ?_;rintro e wA ⟨y,rfl,hy,hc9,hg9⟩;replace hcs:VHas wA w9.heap.size 2 3 (lf [.int .i64 0,.int .i64 5,.int .i64 (-1)]):=VHas.gr hcs hg9 (fun x e=>by cases e;exact h9.d.cur.typed) (by decide);have hA:=h9.rd hc9 hg9;clear hc9 hg9
       obtain⟨xv,hxv,hxr⟩:∃ xv:Int,wA.cell? ⟨w9.heap.size,y,none⟩=some (.int .i64 xv)/\sE xv:=by
        have hyy:y=0\/y=1\/y=2:=by omega
        rcases hyy with rfl|rfl|rfl
        ·exact⟨_,VHas.cell hcs (j:=0) (by omega),by unfold sE;omega⟩
        ·exact⟨_,VHas.cell hcs (j:=1) (by omega),by unfold sE;omega⟩
        ·exact⟨_,VHas.cell hcs (j:=2) (by omega),by unfold sE;omega⟩
       have hy0:(0:Int)<=(y:Int):=by omega
       clear hcs
       go_wp2_with (first|((with_reducible refine dM rfl 2 (.tmp 92) (.tmp 91) rfl rfl (bm) 0 (.int .i64 xv) (by simp[go_sem]) (by simp[go_sem]) ((⟨xv,m.term,m.frm,m.to,m.index,m.lterm,m.ents,m.commit,m.yes⟩:Ms)) (eo) (ec) hA.q (by omega) (by kernel_rfl) (by kernel_rfl) (dT (by kernel_rfl)) (by kernel_rfl) ?_);intro WB vB gB)|fail)
       go_meet
       case rel=>exact⟨_,eo,ec,hA.st vB gB rfl hA.x⟩
      ·have hal:=ra w9 (.cells #[.int .i64 0,.int .i64 100000,.int .i64 100001,.int .i64 (-9223372036854775808)] 2)
       replace h9:=h9.next hal;have hcs:VHas (w9.alloc (.cells #[.int .i64 0,.int .i64 100000,.int .i64 100001,.int .i64 (-9223372036854775808)] 2)) w9.heap.size 2 4 (lf [.int .i64 0,.int .i64 100000,.int .i64 100001,.int .i64 (-9223372036854775808)]):=bH w9 [.int .i64 0,.int .i64 100000,.int .i64 100001,.int .i64 (-9223372036854775808)] 2;clear hal
       go_wp2_with fail
       refine (aI base c bo bn bc 4 (by omega) (by omega) _ h9.d.cur).mono ?_;rintro e wA ⟨y,rfl,hy,hc9,hg9⟩;replace hcs:VHas wA w9.heap.size 2 4 (lf [.int .i64 0,.int .i64 100000,.int .i64 100001,.int .i64 (-9223372036854775808)]):=VHas.gr hcs hg9 (fun x e=>by cases e;exact h9.d.cur.typed) (by decide);have hA:=h9.rd hc9 hg9;clear hc9 hg9
       obtain⟨xv,hxv,hxr⟩:∃ xv:Int,wA.cell? ⟨w9.heap.size,y,none⟩=some (.int .i64 xv)/\sE xv:=by
        have hyy:y=0\/y=1\/y=2\/y=3:=by omega
        rcases hyy with rfl|rfl|rfl|rfl
        ·exact⟨_,VHas.cell hcs (j:=0) (by omega),by unfold sE;omega⟩
        ·exact⟨_,VHas.cell hcs (j:=1) (by omega),by unfold sE;omega⟩
        ·exact⟨_,VHas.cell hcs (j:=2) (by omega),by unfold sE;omega⟩
        ·exact⟨_,VHas.cell hcs (j:=3) (by omega),by unfold sE;omega⟩
       have hy0:(0:Int)<=(y:Int):=by omega
       clear hcs
       go_wp2_with (first|((with_reducible refine dM rfl 2 (.tmp 100) (.tmp 99) rfl rfl (bm) 1 (.int .i64 xv) (by simp[go_sem]) (by simp[go_sem]) ((⟨m.kind,xv,m.frm,m.to,m.index,m.lterm,m.ents,m.commit,m.yes⟩:Ms)) (eo) (ec) hA.q (by omega) (by kernel_rfl) (by kernel_rfl) (dT (by kernel_rfl)) (by kernel_rfl) ?_);intro WB vB gB)|fail)
       go_meet
       case rel=>exact⟨_,eo,ec,hA.st vB gB rfl hA.x⟩
      ·go_wp2_with fail
       have hd:RB w9 w9.drew:=(Below.refl _ _).drew;have hDD:∀ W',RD base c bo bn bc w9.drew W'->DMm w base c bo bn bc n ⟨lo,lc,vo,vc,no,nc,mo,mc⟩ bm m eo ec W':=fun W' q=>(h9.next hd).rd (q.2 (h9.next hd).d.cur) q.1
       clear hd
       refine bW (by kernel_rfl) (by kernel_rfl) (by kernel_rfl) (RD base c bo bn bc) RD.refl RD.trans
        [isV (.pointer (some ⟨w.heap.size,0,none⟩)),isV (.int .i64 n.id),L3x c,isV (.pointer (some ⟨c,0,none⟩)),IxV 3,P3x c,IvV,isV (.pointer (some ⟨bm,2,none⟩))]
        ⟨isV.rd,isV.rd,L3x.rd,isV.rd,IxV.rd,P3x.rd,IvV.rd,isV.rd,trivial⟩ rfl ?_ _ rfl rfl rfl
        (fun v9 W9=>∃ xv,DMm w base c bo bn bc n ⟨lo,lc,vo,vc,no,nc,mo,mc⟩ bm (⟨m.kind,m.term,xv,m.to,m.index,m.lterm,m.ents,m.commit,m.yes⟩:Ms) eo ec W9) ?_ ?_
       ·simp only[List.size_toArray,List.length_cons,List.length_nil,Nat.reduceAdd,Nat.reduceSub,List.take_succ_cons,List.take_zero]
        refine⟨?_,?_,?_,?_,?_,?_,?_,?_,trivial⟩
        ·exact OpOk.get RD.refl _ (fun _=>rfl) fun ev w9 v hR E pr=>by
          have e1:=E.was 3 _;simp[go_sem,e1]
        ·exact OpOk.get RD.refl _ (fun _=>rfl) fun ev w9 v hR E pr=>by
          have e1:=E.eq pr 0 103;have cc:=VHas.cell (hDD w9 hR).d.a (j:=0) (by omega);simp[lf]at cc;simp[go_sem,cc,e1]
        ·refine OpOk.val rfl fun ev w9 v hR E pr=>?_
         have e1:=E.eq pr 1 104;exact⟨.slice (some ⟨w9.heap.size,0,none⟩) 3 3,w9.alloc (.cells #[.int .i64 (-1),.int .i64 5,.int .i64 n.id] 2),(by (simp[go_sem,e1,E.con])<;>rfl),RD.rb (ra _ _),-1,5,n.id,w9.heap.size,rfl,(by have:=(hDD w9 hR).d.r.lt;omega),bH w9 [.int .i64 (-1),.int .i64 5,.int .i64 n.id] 2⟩
        ·exact OpOk.get RD.refl _ (fun _=>rfl) fun ev w9 v hR E pr=>by
          have e1:=E.was 0 _;simp[go_sem,e1]
        ·refine OpOk.call rfl fun ev w9 v hR E pr=>?_
         have e1:=E.eq pr 3 106;refine⟨27,#[.pointer (some ⟨c,0,none⟩),.int .i64 3],by simp[go_sem,e1,E.con,E.fn],?_⟩;refine (aI base c bo bn bc 3 (by omega) (by omega) w9 (hDD w9 hR).d.cur).mono ?_;rintro e w8 ⟨x,rfl,hx,hC8,hg8⟩;exact⟨_,rfl,⟨hg8,fun _=>hC8⟩,x,rfl,by omega⟩
        ·refine OpOk.val rfl fun ev w9 v hR E pr=>?_
         obtain⟨a1,a2,a3,D,e1,hcD,hV⟩:L3x c (ev (.tmp 105)) w9:=E.get pr 2 105;obtain⟨x,e2,hx⟩:IxV 3 (ev (.tmp 107)) w9:=E.get pr 4 107;have hx3:x=0\/x=1\/x=2:=by omega
         rcases hx3 with rfl|rfl|rfl
         ·exact⟨.pointer (some ⟨D,0,none⟩),w9,by simp[go_sem,e1,e2],RD.refl _,a1,D,0,rfl,hcD,VHas.cell hV (j:=0) (by omega)⟩
         ·exact⟨.pointer (some ⟨D,1,none⟩),w9,by simp[go_sem,e1,e2],RD.refl _,a2,D,1,rfl,hcD,VHas.cell hV (j:=1) (by omega)⟩
         ·exact⟨.pointer (some ⟨D,2,none⟩),w9,by simp[go_sem,e1,e2],RD.refl _,a3,D,2,rfl,hcD,VHas.cell hV (j:=2) (by omega)⟩
        ·refine OpOk.val rfl fun ev w9 v hR E pr=>?_
         obtain⟨x,D,k,e1,hcD,hc⟩:P3x c (ev (.tmp 108)) w9:=E.get pr 5 108;exact⟨.int .i64 x,w9,by simp[go_sem,e1,hc],RD.refl _,x,rfl⟩
        ·exact OpOk.get RD.refl _ (fun _=>rfl) fun ev w9 v hR E pr=>by
          have e1:=E.was 5 _;simp[go_sem,e1]
       ·intro ev w9 v hR E hp9
        obtain⟨_,_,_,_,_,_,p6,p7,_⟩:=hp9;have E1:=E.at_ 7 110 rfl (by kernel_rfl) (nb (by kernel_rfl));have E2:=E.at_ 6 109 rfl (by kernel_rfl) (nb (by kernel_rfl));obtain⟨xv,e10⟩:IvV (v 6) w9:=p6;rw[p7]at E1;rw[e10]at E2;have h9:=hDD w9 hR;have g9:=aC w9 bm 2 (.int .i64 xv);exact⟨_,cI rfl E1 E2 h9.q (by omega) (by kernel_rfl) rfl (dT rfl),xv,h9.st (MsB.put h9.q 2 (by omega) _ rfl) g9 rfl h9.x⟩
       ·intro v9 W9 hF9
        simp only[List.size_toArray,List.length_cons,List.length_nil,Nat.reduceAdd,Nat.reduceSub,List.take_succ_cons,List.take_zero,bF,Nat.zero_add,Act.put,sY,sZ,ss];obtain⟨xv,hF⟩:=hF9;clear hDD;go_wp2
        go_meet
        case rel=>exact⟨_,eo,ec,hF⟩
      ·obtain⟨g0,g1,g2,g3,g4,g5,g6,g7,g8⟩:=VHas.c9 h9.q
       simp[lf]at g0 g1 g2 g3 g4 g5 g6 g7 g8
       go_wp2_with (first|((with_reducible refine dM rfl 2 (.tmp 116) (.tmp 115) rfl rfl (bm) 3 (.int .i64 (wrap64 (m.to+1))) (by simp[go_sem]) (by simp[go_sem]) ((⟨m.kind,m.term,m.frm,(wrap64 (m.to+1)),m.index,m.lterm,m.ents,m.commit,m.yes⟩:Ms)) (eo) (ec) h9.q (by omega) (by kernel_rfl) (by kernel_rfl) (dT (by kernel_rfl)) (by kernel_rfl) ?_);intro WB vB gB)|fail)
       go_meet
       case rel=>exact⟨_,eo,ec,h9.st vB gB rfl h9.x⟩
      ·have hal:=ra w9 (.cells #[.int .i64 (-1),.int .i64 4611686018427387904,.int .i64 (-9223372036854775808),.int .i64 9223372036854775807] 2)
       replace h9:=h9.next hal;have hcs:VHas (w9.alloc (.cells #[.int .i64 (-1),.int .i64 4611686018427387904,.int .i64 (-9223372036854775808),.int .i64 9223372036854775807] 2)) w9.heap.size 2 4 (lf [.int .i64 (-1),.int .i64 4611686018427387904,.int .i64 (-9223372036854775808),.int .i64 9223372036854775807]):=bH w9 [.int .i64 (-1),.int .i64 4611686018427387904,.int .i64 (-9223372036854775808),.int .i64 9223372036854775807] 2;clear hal
       go_wp2_with fail
       refine (aI base c bo bn bc 4 (by omega) (by omega) _ h9.d.cur).mono ?_;rintro e wA ⟨y,rfl,hy,hc9,hg9⟩;replace hcs:VHas wA w9.heap.size 2 4 (lf [.int .i64 (-1),.int .i64 4611686018427387904,.int .i64 (-9223372036854775808),.int .i64 9223372036854775807]):=VHas.gr hcs hg9 (fun x e=>by cases e;exact h9.d.cur.typed) (by decide);have hA:=h9.rd hc9 hg9;clear hc9 hg9
       obtain⟨xv,hxv,hxr⟩:∃ xv:Int,wA.cell? ⟨w9.heap.size,y,none⟩=some (.int .i64 xv)/\sE xv:=by
        have hyy:y=0\/y=1\/y=2\/y=3:=by omega
        rcases hyy with rfl|rfl|rfl|rfl
        ·exact⟨_,VHas.cell hcs (j:=0) (by omega),by unfold sE;omega⟩
        ·exact⟨_,VHas.cell hcs (j:=1) (by omega),by unfold sE;omega⟩
        ·exact⟨_,VHas.cell hcs (j:=2) (by omega),by unfold sE;omega⟩
        ·exact⟨_,VHas.cell hcs (j:=3) (by omega),by unfold sE;omega⟩
       have hy0:(0:Int)<=(y:Int):=by omega
       clear hcs
       go_wp2_with (first|((with_reducible refine dM rfl 2 (.tmp 124) (.tmp 123) rfl rfl (bm) 4 (.int .i64 xv) (by simp[go_sem]) (by simp[go_sem]) ((⟨m.kind,m.term,m.frm,m.to,xv,m.lterm,m.ents,m.commit,m.yes⟩:Ms)) (eo) (ec) hA.q (by omega) (by kernel_rfl) (by kernel_rfl) (dT (by kernel_rfl)) (by kernel_rfl) ?_);intro WB vB gB)|fail)
       go_meet
       case rel=>exact⟨_,eo,ec,hA.st vB gB rfl hxr⟩
      ·go_wp2_with fail
       refine (nF base c bo bn bc _ h9.d.cur).mono ?_;rintro e wA ⟨lo2,k2,lc2,rfl,hk2,hOE,hc9,hg9⟩;have hsz9:w.heap.size+2<=w9.heap.size:=h9.d.r.lt;have hA:=h9.rd hc9 hg9;clear hc9 hg9
       obtain⟨L,eL,hOw,hTx⟩:∃ L:List En,k2=L.length/\OwE wA (w.heap.size+2) lo2 lc2 L/\∀ k,k<L.length->(cS L k).size<=1048576:=by
        obtain⟨T,X,hX,hrow,_⟩:=hOE;refine⟨jW k2 T X,(dO _ _ _).symm,?_,fun j hj=>?_⟩
        ·have h1:GOwn wA w9.heap.size 47 2 lo2 k2 lc2 (nr T X):=hrow
         have h2:=GOwn.congr h1 (fun j hj=>(rF k2 T X j hj).symm)
         show GOwn wA (w.heap.size+2) 47 2 lo2 (jW k2 T X).length lc2 (lf (dZ (jW k2 T X)))
         rw[dO];exact GOwn.from h2 hsz9
        ·rw[dO]at hj
         rw[rO hj];exact Nat.le_trans (hX j hj) (by omega)
       subst eL;clear hOE
       go_wp2_with (first|((with_reducible refine dM rfl 24 (.tmp 129) (.tmp 128) rfl rfl (bm) 6 (.slice lo2 L.length lc2) (by simp[go_sem]) (by simp[go_sem]) ((⟨m.kind,m.term,m.frm,m.to,m.index,m.lterm,L,m.commit,m.yes⟩:Ms)) (lo2) (lc2) hA.q (by omega) (by kernel_rfl) (by kernel_rfl) (dT (by kernel_rfl)) (by kernel_rfl) ?_);intro WB vB gB)|fail)
       go_meet
       case rel=>exact⟨_,lo2,lc2,hA.d.put gB (fun x e=>by cases e;exact hA.b),vB,hOw.gr gB (fun x e=>by cases e;exact VHas.typed hA.q) (by decide),⟨by show L.length<=1048576;omega,hTx⟩,hA.x,hA.b⟩
     case rest=>
      clear h8;obtain⟨m,eo,ec,h8⟩:=hcut;obtain⟨g0,g1,g2,g3,g4,g5,g6,g7,g8⟩:=cM h8.q
      go_wp2_with (first|((with_reducible refine wB 29 (.tmp 4) (.tmp 130) (w.heap.size+1) (bZ m eo ec) h8.d.r ?_);intro WZ vZ gZ)|fail)
      obtain⟨q0,q1,q2,q3,q4,q5,q6,q7,q8⟩:=cM vZ;have hgw:=h8.d.gr;have hl:=h8.d.lt;have hge:=h8.d.cur.ge;exact bodyPost_ret (v:=eS m eo ec) (by simp[results,Tryz.results29,go_sem,q0,q1,q2,q3,q4,q5,q6,q7,q8]) rfl ⟨m,eo,ec,rfl,GOwn.from (h8.e.gr gZ (fun x e=>by cases e;exact h8.d.r.typed) (by decide)) (by omega),h8.z,h8.x,h8.d.cur.grown gZ (by omega) (by omega),⟨gZ.os.trans hgw.os,gZ.tape.trans hgw.tape,gZ.output.trans hgw.output,Nat.le_trans hgw.size gZ.size,fun k hk hc=>(gZ.block k (Nat.lt_of_lt_of_le hk hgw.size) (fun q=>by have:=oI q;omega)).trans (hgw.block k hk hc)⟩⟩
end
section
open Go.RowKit Go.Maps
attribute [local go_sem ↓] Go.wp_at_zero Go.wp_at_succ
theorem N9(ao:Option Addr)(n cap:Nat)(hn:n<=4096)(w:World)(hr:ByRow w w.heap.size ao n):
  Calls Tryz.prog 24 #[.slice ao n cap] w fun e w'=>∃ c,e=.returned (.pointer (some ⟨c,0,none⟩))/\CurAt w' w.heap.size c ao n cap/\Below w.heap.size w w':=by
 go_enter Tryz.func24,Tryz.ntmps24;go_wp2
 go_loopw [3,4] (fun x i wr=>∃ (k:Nat) (h:Int),k<=n/\x=.int .i64 h/\i=.int .i64 k/\wr=w) (fun _ i _=>n-(intOf i).toNat)
 case atStart=>exact⟨0,_,Nat.zero_le _,rfl,rfl,rfl⟩
 case round=>
  obtain⟨k,h,hk,rfl,rfl,rfl⟩:=hrel
  by_cases hlt:k<n
  ·obtain⟨b,o,v,hao,hbb,hcb,hv0,hv1⟩:=hr k hlt
   subst hao;go_wp2
   go_roundw
   case rel=>exact⟨k+1,_,by omega,rfl,by go_num,by first|trivial|rfl⟩
   case measure=>simp[intOf];omega
  ·go_wp2
   go_ret;refine⟨_,rfl,⟨Nat.le_refl _,hn,hr.below ((Below.refl _ _).alloc nl _) nl,0,h,by omega,by omega,?_⟩,(Below.refl _ _).alloc nl _⟩
   exact⟨_,Go.Deep.blk_alloc_new _ _,by simp,fun j hj=>by
    have:j=0\/j=1\/j=2:=by omega
    rcases this with rfl|rfl|rfl<;>rfl⟩
end
section
open Go Go.RowKit
attribute [local go_sem ↓] Go.wp_at_zero Go.wp_at_succ
section
variable {w:World} {c:Nat} {ao:Option Addr} {k cap:Nat} {b5:Nat} {n:Nd} {s:NdS} {W W':World}
end
theorem C7{w w1 w2:World}{c:Nat}(h:RB w w1)(hc:w.heap.size<=c)(hg:w1.grownBy w2 (some c)):RB w w2:=jO h hg (fun x e=>by cases e;exact hc)
end
end Go.Proofs.YtbabakgjkloabaaGreatDoor
