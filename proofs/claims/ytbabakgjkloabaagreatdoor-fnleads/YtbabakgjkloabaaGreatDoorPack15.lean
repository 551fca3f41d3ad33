/-
  Helpers: Sn6, Tmo.
-/
import Derived.Test.YtbabakgjkloabaaGreatDoorPack2
import Derived.Test.YtbabakgjkloabaaGreatDoorPack8
import Derived.Test.YtbabakgjkloabaaGreatDoorPack12
import Derived.Test.YtbabakgjkloabaaGreatDoorPack13
import Derived.Test.YtbabakgjkloabaaGreatDoorPack14
import Derived.Test.YtbabakgjkloabaaGreatDoorPack10
set_option linter.unusedVariables false
set_option linter.unusedSimpArgs false
namespace Go.Proofs.YtbabakgjkloabaaGreatDoor
section
open Go Go.RowKit
attribute [local go_sem ↓] Go.wp_at_zero Go.wp_at_succ
structure G2 (b:Nat) (r:Option Nat) (w w':World):Prop where
 os:w'.os=w.os
 tape:w'.tape=w.tape
 output:w'.output=w.output
 size:w.heap.size<=w'.heap.size
 block:∀ k,k<w.heap.size->k≠b->r≠some k->w'.heap[k]?=w.heap[k]?
theorem G2.gr {b:Nat} {r:Option Nat} {w w' w'':World} {x:Option Nat} (h:G2 b r w w') (hg:w'.grownBy w'' x) (hx:∀ z,x=some z->z=b\/r=some z\/w.heap.size<=z):G2 b r w w'':=
 ⟨hg.os.trans h.os,hg.tape.trans h.tape,hg.output.trans h.output,Nat.le_trans h.size hg.size,fun k hk h1 h2=>(hg.block k (Nat.lt_of_lt_of_le hk h.size) (fun q=>by
  rcases hx k q.symm with h3|h3|h3
  ·exact h1 h3
  ·exact h2 h3
  ·omega)).trans (h.block k hk h1 h2)⟩
theorem G2.rb {b:Nat} {r:Option Nat} {w w' w'':World} (h:G2 b r w w') (hb:RB w' w''):G2 b r w w'':=h.gr (gr_of_rb' (b:=none) hb) (fun z e=>by cases e)
theorem G2.refl (b:Nat) (r:Option Nat) (w:World):G2 b r w w:=⟨rfl,rfl,rfl,Nat.le_refl _,fun _ _ _ _=>rfl⟩
theorem G2.of {b:Nat} {r:Option Nat} {w w':World} (hg:w.grownBy w' (some b)):G2 b r w w':=(G2.refl b r w).gr hg (fun z e=>.inl (Option.some.inj e).symm)
theorem G2.new {b:Nat} {r:Option Nat} {w w' w'':World} (h:G2 b r w' w'') (hw:RB w w') (h1:w.heap.size<=b) (h2:∀ k,r=some k->w.heap.size<=k):RB w w'':=
 ⟨h.os.trans hw.os,h.tape.trans hw.tape,h.output.trans hw.output,Nat.le_trans hw.size h.size,fun k hk=>(h.block k (Nat.lt_of_lt_of_le hk hw.size) (by omega) (fun q=>by have:=h2 k q;omega)).trans (hw.block k hk)⟩
def ldK (n:Nd) (L:List En) (p:Nat):Nd:=⟨n.id,n.peers,n.term,n.vote,L,3,n.commit,n.votes,List.replicate p ((n.log.length:Int)+1),List.replicate p 0⟩
def ldK1 (n:Nd) (L:List En) (p:Nat):Nd:=⟨n.id,n.peers,n.term,n.vote,L,3,n.commit,n.votes,List.replicate (p+1) ((n.log.length:Int)+1),List.replicate p 0⟩
def ldJ (n:Nd) (L:List En):Nd:=⟨n.id,n.peers,n.term,n.vote,L,3,n.commit,n.votes,n.next,n.mat⟩
def ldI (n:Nd) (L:List En):Nd:=⟨n.id,n.peers,n.term,n.vote,L,3,n.commit,n.votes,[],n.mat⟩
theorem OwI.one {w:World} {base:Nat} {ao:Option Addr} {cap p:Nat} {x:Int} (h:GOwn w base 2 1 ao (p+1) cap (fun j=>if j<p*1 then lf (ilc (List.replicate p x)) j else .int .i64 x)):OwI w base ao cap (List.replicate (p+1) x):=by
 have e:(List.replicate (p+1) x).length=p+1:=by simp
 unfold OwI;rw[e];refine h.congr (fun j hj=>?_)
 by_cases q:j<p
 ·rw[if_pos (by omega),ilc_lf _ j (by simp;omega),ilc_lf _ j (by simp;omega)]
  simp[iOf,q,show j<p+1 by omega]
 ·rw[if_neg (by omega),ilc_lf _ j (by simp;omega)]
  simp[iOf,show j<p+1 by omega]
theorem ownBlk_eq (ao:Option Addr) (n c:Nat):(Value.slice ao n c).ownBlock=blk ao:=by cases ao<;>rfl
theorem OwI.apartO {w w':World} {base cap:Nat} {ao:Option Addr} {l:List Int} {x:Option Nat} (h:OwI w base ao cap l) (hg:w.grownBy w' x) (hne:∀ z,x=some z->blk ao≠some z):OwI w' base ao cap l:=GOwn.grown h hg (fun z e q=>hne z q (by rw[<-ownBlk_eq ao l.length cap];exact e))
theorem OwI.rep {w:World} {base cap k:Nat} {ao:Option Addr} {x:Int} (h:OwI w base ao cap (List.replicate k x)):GOwn w base 2 1 ao k cap (lf (ilc (List.replicate k x))):=by
 have e:(List.replicate k x).length=k:=by simp
 unfold OwI at h;rw[e]at h;exact h
theorem row_one (w:World) (x:Int):GRow (w.alloc (.cells #[.int .i64 x] 2)) (some ⟨w.heap.size,0,none⟩) (1*1) (fun _=>.int .i64 x):=fun _=>⟨w.heap.size,0,rfl,fun j hj=>by
 obtain rfl:j=0:=by omega
 simp[go_sem]⟩
theorem blk_app {w:World} {ao ao' bo:Option Addr} {n n' c c' cap base:Nat} {l:List Int} (hd:(Value.slice ao' n' c').ownBlock=(Value.slice ao n c).ownBlock\/(Value.slice ao' n' c').ownBlock=some w.heap.size) (hb:OwI w base bo cap l) (hne:∀ z,blk ao=some z->blk bo≠some z):∀ z,blk ao'=some z->blk bo≠some z:=fun z e q=>by
 rw[ownBlk_eq,ownBlk_eq]at hd;rcases hd with h|h
 ·exact hne z (h.symm.trans e) q
 ·have h1:w.heap.size=z:=Option.some.inj (h.symm.trans e)
  have:=(hb.at q).2;omega
theorem blk_symm {a b:Option Addr} (h:∀ z,blk a=some z->blk b≠some z):∀ z,blk b=some z->blk a≠some z:=fun z e q=>h z q e
theorem blk_vo {w W:World} {base vc nc:Nat} {vo no:Option Addr} {l k:List Int} (hbs:base<=w.heap.size) (hv:OwI w base vo vc l) (hn:OwI W w.heap.size no nc k):∀ z,blk vo=some z->blk no≠some z:=fun z e q=>by
 have h1:=(hv.at e).2;have h2:=(hn.at q).1;omega
def EL1 (vs:List Value) (v:Value) (w:World):Prop:=∃ B,v=.slice (some ⟨B,0,none⟩) 1 1/\VHas w B 47 2 (lf vs)
theorem EL1.rb {vs:List Value} (v:Value) (w w':World) (h:EL1 vs v w) (hb:RB w w'):EL1 vs v w':=by
 obtain⟨B,e,h⟩:=h;exact⟨B,e,h.next hb⟩
theorem EL1.new (w:World) (a b:Value):EL1 [a,b] (.slice (some ⟨w.heap.size,0,none⟩) 1 1) (w.alloc (.cells #[a,b] 47)):=⟨w.heap.size,rfl,box_new w [a,b] 47⟩
def OaV (base:Nat) (l:List En) (v:Value) (w:World):Prop:=∃ a c,v=.slice a l.length c/\OwE w base a c l
theorem OaV.rb {base:Nat} {l:List En} (v:Value) (w w':World) (h:OaV base l v w) (hb:RB w w'):OaV base l v w':=by
 obtain⟨a,c,e,h⟩:=h;exact⟨a,c,e,h.next hb⟩
theorem one_ok {o:Oper} {ev:Operand->Value} {x y:Operand} {base:Nat} {l:List En} {ao:Option Addr} {cap:Nat} {t:Int} {q:ByteArray} {w:World} (ho:o.op=.call { callee:=.builtin .append,args:=#[x,y],argTypes:=#[24,24] }) (hx:ev x=.slice ao l.length cap) (hO:OwE w base ao cap l) (hy:EL1 [.int .i64 t,.string q] (ev y) w) (hl:l.length<=1048576) (hb:base<=w.heap.size):
  ∃ u w',(execOp ev o).run Tryz.prog w=.ok (.value u) w'/\OaV base (l++[⟨t,q⟩]) u w'/\w.grownBy w' (blk ao):=by
 obtain⟨B,e2,hB⟩:=hy
 have hgr:GRow w (some ⟨B,0,none⟩) (1*2) (fun j=>if j=0 then .int .i64 t else .string q):=fun _=>⟨B,0,rfl,fun j hj=>by
  rw[Nat.zero_add,hB.cell (by omega)];have:j=0\/j=1:=by omega
  rcases this with rfl|rfl<;>rfl⟩
 obtain⟨ao',cap',w',hrun,hown,hg,_⟩:=run_app Tryz.elEnQ w o.type base _ ao l.length cap hO (some ⟨B,0,none⟩) 1 1 _ hgr (fun j=>by
  by_cases q:j=0
  ·simp only[if_pos q];rfl
  ·simp only[if_neg q];rfl) (by omega) hb
 rw[ownBlk_eq]at hg;refine⟨_,w',exec_append ho hx e2 hrun,⟨ao',cap',by simp,OwE.more (x:=⟨t,q⟩) (hown.congr (fun j hj=>?_))⟩,hg⟩
 by_cases q9:j<l.length*2
 ·simp only[if_pos q9]
 ·have:j-l.length*2=0\/j-l.length*2=1:=by omega
  simp only[if_neg q9];rcases this with h|h<;>rw[h]<;>rfl
def LeadA (b base:Nat) (r:Option Nat) (n:Nd) (w w':World) (e:Ending):Prop:=∃ v s',e=.returned v/\NdB w' b (ldN n) s'/\NdO w' base (ldN n) s'/\NetV w.heap.size (ldL n) v w'/\G2 b r w w'
set_option maxRecDepth 100000 in
set_option maxHeartbeats 16000000 in
theorem specLead_any (n:Nd) (s:NdS) (hz:NdZ n s) (b base:Nat) (hp:1<=n.peers/\n.peers<=5) (hi:0<=n.id/\n.id<n.peers) (hc:0<=n.commit) (ht:0<n.term) (w:World) (hbs:base<=w.heap.size) (vB:NdB w b n s) (hO:NdO w base n s):Calls Tryz.prog 54 #[.pointer (some ⟨b,0,none⟩)] w fun e w'=>LeadA b base (blk s.lo) n w w' e:=by
 obtain⟨hzl,hzv,hzx,hzm,hlc,hvc,hxc,hmc,hzt⟩:=hz;obtain⟨lo,lc,vo,vc,no,nc,mo,mc⟩:=s;obtain⟨P,hP⟩:∃ P:Nat,n.peers=(P:Int):=⟨n.peers.toNat,by omega⟩
 have hP5:P<=5:=by omega
 replace hP:Hid (n.peers=(P:Int)):=hP;obtain⟨r,hr⟩:∃ r,r=blk lo:=⟨_,rfl⟩
 simp only;rw[<-hr];replace hr:Hid (r=blk lo):=hr;have hvo:Hid (∀ z,blk vo=some z->z<w.heap.size):=fun z e=>(hO.v.at e).2
 have hwl:IntKind.i64.wrap ((n.log.length:Int)+1)=(n.log.length:Int)+1:=by rw[IntKind.wrap_i64];omega
 obtain⟨f0,f1,f2,f3,f4,f5,f6,f7,f8,f9⟩:=cN vB;go_enter Tryz.func54,Tryz.ntmps54
 by_cases hroom:(n.log.length:Int)<200
 rotate_left
 ·go_wp2_with (first|((with_reducible refine wN 2 (.tmp 7) (.const (.int .i64 3)) (b) 5 (.int .i64 3) (ldJ n n.log) (⟨lo,lc,vo,vc,no,nc,mo,mc⟩) vB ?_);intro Wt vT gT;clear f0 f1 f2 f3 f4 f5 f6 f7 f8 f9;have hal1:=RB.alloc Wt (.cells #[] 2);have vB1:NdB (Wt.alloc (.cells #[] 2)) b (ldJ n n.log) ⟨lo,lc,vo,vc,no,nc,mo,mc⟩:=VHas.next vT hal1;obtain⟨f0,f1,f2,f3,f4,f5,f6,f7,f8,f9⟩:=VHas.c10 vT;simp[lf,ldJ]at f0 f1 f2 f3 f4 f5 f6 f7 f8 f9)|((with_reducible refine wN 25 (.tmp 37) (.tmp 35) (b) 8 (.slice (some ⟨Wt.heap.size,0,none⟩) 0 0) (ldI n n.log) (⟨lo,lc,vo,vc,some ⟨Wt.heap.size,0,none⟩,0,mo,mc⟩) vB1 ?_);intro Wa va ga;clear f0 f1 f2 f3 f4 f5 f6 f7 f8 f9;have hal2:=RB.alloc Wa (.cells #[] 2);have va2:NdB (Wa.alloc (.cells #[] 2)) b (ldI n n.log) ⟨lo,lc,vo,vc,some ⟨Wt.heap.size,0,none⟩,0,mo,mc⟩:=VHas.next va hal2;obtain⟨f0,f1,f2,f3,f4,f5,f6,f7,f8,f9⟩:=VHas.c10 va2;simp[lf,ldI]at f0 f1 f2 f3 f4 f5 f6 f7 f8 f9)|((with_reducible refine wN 25 (.tmp 41) (.tmp 39) (b) 9 (.slice (some ⟨Wa.heap.size,0,none⟩) 0 0) (ldK n n.log 0) (⟨lo,lc,vo,vc,some ⟨Wt.heap.size,0,none⟩,0,some ⟨Wa.heap.size,0,none⟩,0⟩) va2 ?_);intro Wb vb gb;clear f0 f1 f2 f3 f4 f5 f6 f7 f8 f9)|fail)
  have hL:OwE Wt base lo lc n.log:=hO.l.gr gT (ndT vB) (by decide);have hV:OwI Wt base vo vc n.votes:=hO.v.gr gT (ndT vB) (by decide);have hG:G2 b r w Wt:=G2.of gT
  have hA:Hid (ldA n=ldK n n.log P):=by
   show _ = _
   have hr0:roomL (ldM n)=false:=by
    have h1:decide ((ldM n).log.length<200)=false:=decide_eq_false (by show ¬ n.log.length<200;omega);simp only[roomL,h1,Bool.false_and]
   simp only[ldA,hr0];simp[ldM,ldK,hP.out]
  have hLz:n.log.length<=1048576:=hzl;have hLt:∀ k,k<n.log.length->(xOf n.log k).size<=1048576:=hzt;have hLn:n.log.length<=n.log.length:=Nat.le_refl _;clear hO gT vT;have sa:Wt.heap.size+1<=Wa.heap.size:=by have h:=ga.size;simpa[World.size_alloc] using h
  have sb:Wa.heap.size+1<=Wb.heap.size:=by have h:=gb.size;simpa[World.size_alloc] using h
  have hgs:=hG.size;have hX0:OwI Wb w.heap.size (some ⟨Wt.heap.size,0,none⟩) 0 (List.replicate 0 ((n.log.length:Int)+1)):=(((OwI.gr (GOwn.empty Wt 2 1 _:OwI _ _ _ _ []) ga (ndT vB1) (by decide)).next hal2).gr gb (ndT va2) (by decide)).from hgs
  have hM0:OwI Wb w.heap.size (some ⟨Wa.heap.size,0,none⟩) 0 (List.replicate 0 0):=(OwI.gr (GOwn.empty Wa 2 1 _:OwI _ _ _ _ []) gb (ndT va2) (by decide)).from (by omega)
  have hL0:OwE Wb base lo lc n.log:=(((hL.next hal1).gr ga (ndT vB1) (by decide)).next hal2).gr gb (ndT va2) (by decide);have hV0:OwI Wb base vo vc n.votes:=(((hV.next hal1).gr ga (ndT vB1) (by decide)).next hal2).gr gb (ndT va2) (by decide);have hG0:G2 b r w Wb:=(((hG.rb hal1).gr ga (fun z e=>.inl (Option.some.inj e).symm)).rb hal2).gr gb (fun z e=>.inl (Option.some.inj e).symm)
  have hne0:∀ z,blk (some ⟨Wt.heap.size,0,none⟩)=some z->blk (some ⟨Wa.heap.size,0,none⟩)≠some z:=fun z e q=>by
   have h1:Wt.heap.size=z:=Option.some.inj e;have h2:Wa.heap.size=z:=Option.some.inj q;omega
  clear hal1 hal2 vB1 va va2 ga gb hL hV hG sa sb hgs
  go_loopw [4] (fun x4 wr=>∃ (k:Nat) (no mo:Option Addr) (nc mc:Nat),k<=P/\x4=.int .i64 (k:Int)/\NdB wr b (ldK n n.log k) ⟨lo,lc,vo,vc,no,nc,mo,mc⟩/\OwI wr w.heap.size no nc (List.replicate k ((n.log.length:Int)+1))/\OwI wr w.heap.size mo mc (List.replicate k 0)/\(∀ z,blk no=some z->blk mo≠some z)/\OwE wr base lo lc n.log/\OwI wr base vo vc n.votes/\G2 b r w wr) (fun x _=>P-(intOf x).toNat)
  case atStart=>exact⟨0,_,_,0,0,Nat.zero_le _,rfl,vb,hX0,hM0,hne0,hL0,hV0,hG0⟩
  case round=>
   obtain⟨k,no,mo,nc,mc,hk,rfl,vW,hX,hM,hne,hL,hV,hG⟩:=hrel;clear vb hX0 hM0 hne0 hL0 hV0 hG0;have hbs2:w.heap.size<=wr.heap.size:=hG.size;obtain⟨f0,f1,f2,f3,f4,f5,f6,f7,f8,f9⟩:=VHas.c10 vW;simp[lf,ldK]at f0 f1 f2 f3 f4 f5 f6 f7 f8 f9
   by_cases hlt:k<P
   ·have hlt':(k:Int)<n.peers:=by have:=hP.out;omega
    have hwk:IntKind.i64.wrap ((k:Int)+1)=(k:Int)+1:=by rw[IntKind.wrap_i64];omega
    have hal:=RB.alloc wr (.cells #[.int .i64 ((n.log.length:Int)+1)] 2);have hrow:=row_one wr ((n.log.length:Int)+1);have vW1:NdB (wr.alloc (.cells #[.int .i64 ((n.log.length:Int)+1)] 2)) b (ldK n n.log k) ⟨lo,lc,vo,vc,no,nc,mo,mc⟩:=VHas.next vW hal;have hXa:=OwI.rep (hX.next hal);have hMa:=hM.next hal;have hLa:=hL.next hal;have hVa:=hV.next hal;have hsa:w.heap.size<=(wr.alloc (.cells #[.int .i64 ((n.log.length:Int)+1)] 2)).heap.size:=Nat.le_trans hbs2 hal.size;have hGa:=hG.rb hal;have hk1:k+1<=100000000:=by omega
    have hvn:∀ z,blk vo=some z->blk no≠some z:=fun z e q=>by have h1:=hvo.out z e;have h2:=(hX.at q).1;omega
    have hvm:∀ z,blk vo=some z->blk mo≠some z:=fun z e q=>by have h1:=hvo.out z e;have h2:=(hM.at q).1;omega
    clear hal vW hX hM hL hV hG
    go_wp2_with (first|(at_builtin;(with_reducible refine wpList_app rfl (.tmp 54) (.tmp 56) Tryz.elIQ rfl 57 rfl w.heap.size _ no k nc (by simp[go_sem]) hXa (some ⟨wr.heap.size,0,none⟩) 1 1 (fun _=>.int .i64 ((n.log.length:Int)+1)) (by simp[go_sem]) hrow (fun _=>rfl) hk1 hsa ?_);intro no2 nc2 U1 hX1 g1 d1;have hT1:∀ z,(Value.slice no k nc).ownBlock=some z->Typed _ z 2:=(fun z e=>GOwn.typed hXa e);have vU1:NdB U1 b (ldK n n.log k) ⟨lo,lc,vo,vc,no,nc,mo,mc⟩:=VHas.gr vW1 g1 hT1 (by decide))|((with_reducible refine wpList_nd rfl 25 (.tmp 59) (.tmp 57) rfl rfl (b) 8 (.slice no2 (k+1) nc2) (by simp[go_sem]) (by simp[go_sem]) (ldK1 n n.log k) (⟨lo,lc,vo,vc,no2,nc2,mo,mc⟩) vU1 (by omega) (by kernel_rfl) (by kernel_rfl) (oneV (by kernel_rfl)) (by simp[ldK,ldK1]) ?_);intro U2 vU2 g2;clear f0 f1 f2 f3 f4 f5 f6 f7 f8 f9;have hn1:=blk_app d1 hMa hne;have hX2:=OwI.gr (OwI.one hX1) g2 (ndT vU1) (by decide);have hM2:=(hMa.apartO g1 (fun z e=>hne z (by rw[<-ownBlk_eq no k nc];exact e))).gr g2 (ndT vU1) (by decide);have hL2:=(hLa.gr g1 hT1 (by decide)).gr g2 (ndT vU1) (by decide);have hV2:=(hVa.apartO g1 (fun z e q=>hvn z q (by rw[<-ownBlk_eq no k nc];exact e))).gr g2 (ndT vU1) (by decide);have hG2:=(hGa.gr g1 (fun z e=>.inr (.inr (GOwn.at hXa e).1))).gr g2 (fun z e=>.inl (Option.some.inj e).symm);have hal2:=RB.alloc U2 (.cells #[.int .i64 0] 2);have hrow2:=row_one U2 0;have vU2b:NdB (U2.alloc (.cells #[.int .i64 0] 2)) b (ldK1 n n.log k) ⟨lo,lc,vo,vc,no2,nc2,mo,mc⟩:=VHas.next vU2 hal2;have hXb:=hX2.next hal2;have hMb:=OwI.rep (hM2.next hal2);have hMo:=hM2.next hal2;have hLb:=hL2.next hal2;have hVb:=hV2.next hal2;have hsb:w.heap.size<=(U2.alloc (.cells #[.int .i64 0] 2)).heap.size:=Nat.le_trans hG2.size hal2.size;have hGb:=hG2.rb hal2;obtain⟨f0,f1,f2,f3,f4,f5,f6,f7,f8,f9⟩:=VHas.c10 vU2;simp[lf,ldK1]at f0 f1 f2 f3 f4 f5 f6 f7 f8 f9)|(at_builtin;(with_reducible refine wpList_app rfl (.tmp 64) (.tmp 65) Tryz.elIQ rfl 66 rfl w.heap.size _ mo k mc (by simp[go_sem]) hMb (some ⟨U2.heap.size,0,none⟩) 1 1 (fun _=>.int .i64 0) (by simp[go_sem]) hrow2 (fun _=>rfl) hk1 hsb ?_);intro mo2 mc2 U3 hM3 g3 d3;have hT3:∀ z,(Value.slice mo k mc).ownBlock=some z->Typed _ z 2:=(fun z e=>GOwn.typed hMb e);have vU3:NdB U3 b (ldK1 n n.log k) ⟨lo,lc,vo,vc,no2,nc2,mo,mc⟩:=VHas.gr vU2b g3 hT3 (by decide))|((with_reducible refine wpList_nd rfl 25 (.tmp 68) (.tmp 66) rfl rfl (b) 9 (.slice mo2 (k+1) mc2) (by simp[go_sem]) (by simp[go_sem]) (ldK n n.log (k+1)) (⟨lo,lc,vo,vc,no2,nc2,mo2,mc2⟩) vU3 (by omega) (by kernel_rfl) (by kernel_rfl) (oneV (by kernel_rfl)) (by simp[ldK,ldK1]) ?_);intro U4 vU4 g4;have hnf:∀ z,blk no2=some z->blk mo2≠some z:=blk_symm (blk_app d3 hXb (blk_symm hn1));have hMf:=OwI.gr (OwI.one hM3) g4 (ndT vU3) (by decide);have hXf:=(hXb.apartO g3 (fun z e q=>hn1 z q (by rw[<-ownBlk_eq mo k mc];exact e))).gr g4 (ndT vU3) (by decide);have hLf:=(hLb.gr g3 hT3 (by decide)).gr g4 (ndT vU3) (by decide);have hVf:=(hVb.apartO g3 (fun z e q=>hvm z q (by rw[<-ownBlk_eq mo k mc];exact e))).gr g4 (ndT vU3) (by decide);have hGf:=(hGb.gr g3 (fun z e=>.inr (.inr (GOwn.at hMb e).1))).gr g4 (fun z e=>.inl (Option.some.inj e).symm);clear f0 f1 f2 f3 f4 f5 f6 f7 f8 f9)|fail)
    go_roundw
    case rel=>exact⟨k+1,no2,mo2,nc2,mc2,by omega,by go_num,vU4,hXf,hMf,hnf,hLf,hVf,hGf⟩
    case measure=>first|(simp[intOf];omega)|(simp[intOf];done)
   obtain rfl:k=P:=by omega
   have hge:¬ (k:Int)<n.peers:=by have:=hP.out;omega
   go_wp2_with fail
   clear f0 f1 f2 f3 f4 f5 f6 f7 f8 f9 hge;have hd:RB wr wr.drew:=(Below.refl _ _).drew;have hXd:=hX.next hd;have hMd:=hM.next hd;have hLd:=hL.next hd;have hVd:=hV.next hd;have hGd:=hG.rb hd;have hvn:∀ z,blk vo=some z->blk no≠some z:=fun z e q=>by have h1:=hvo.out z e;have h2:=(hX.at q).1;omega
   have hvm:∀ z,blk vo=some z->blk mo≠some z:=fun z e q=>by have h1:=hvo.out z e;have h2:=(hM.at q).1;omega
   have hi2:n.id<(k:Int):=by have:=hP.out;omega
   obtain⟨g,eg,hgw,hvg⟩:=hMd.vh (by simp;omega);subst eg;have vD:NdB wr.drew b (ldK n n.log k) ⟨lo,lc,vo,vc,no,nc,some ⟨g,0,none⟩,mc⟩:=VHas.next vW hd
   refine region_store (by kernel_rfl) (by kernel_rfl) (by kernel_rfl) RB RB.refl RB.trans
    [isV (.pointer (some ⟨b,0,none⟩)),isV (.pointer (some ⟨b,0,none⟩)),isV (.pointer (some ⟨b,9,none⟩)),isV (.slice (some ⟨g,0,none⟩) k mc),isV (.pointer (some ⟨b,0,none⟩)),isV (.pointer (some ⟨b,0,none⟩)),isV (.pointer (some ⟨b,0,none⟩)),isV (.int .i64 n.id),isV (.pointer (some ⟨b,0,none⟩)),isV (.pointer (some ⟨b,0,none⟩)),isV (.pointer (some ⟨b,4,none⟩)),isV (.slice lo n.log.length lc),isV (.int .i64 (n.log.length:Int)),isV (.pointer (some ⟨g,n.id.toNat,none⟩))]
    ⟨isV.rb,isV.rb,isV.rb,isV.rb,isV.rb,isV.rb,isV.rb,isV.rb,isV.rb,isV.rb,isV.rb,isV.rb,isV.rb,isV.rb,trivial⟩ rfl ?_ _ rfl rfl rfl
    (fun v w9=>OwI w9 w.heap.size (some ⟨g,0,none⟩) mc ((List.replicate k 0).set n.id.toNat ((n.log.length:Nat):Int))/\NdB w9 b (matN (ldK n n.log k) n.id.toNat) ⟨lo,lc,vo,vc,no,nc,some ⟨g,0,none⟩,mc⟩/\OwI w9 w.heap.size no nc (List.replicate k ((n.log.length:Int)+1))/\OwE w9 base lo lc n.log/\OwI w9 base vo vc n.votes/\G2 b r w w9) ?_ ?_
   ·simp only[List.size_toArray,List.length_cons,List.length_nil,Nat.reduceAdd,Nat.reduceSub,List.take_succ_cons,List.take_zero]
    refine⟨?_,?_,?_,?_,?_,?_,?_,?_,?_,?_,?_,?_,?_,?_,trivial⟩
    ·exact oq rfl fun ev w9 v hR E pr=>by
      have e1:=E.was 0 _;simp[go_sem,e1]
    ·exact oq rfl fun ev w9 v hR E pr=>by
      have e1:=E.eq pr 0 69;simp[go_sem,e1]
    ·exact oq rfl fun ev w9 v hR E pr=>by
      have e1:=E.eq pr 1 70;simp[go_sem,e1]
    ·exact oq rfl fun ev w9 v hR E pr=>by
      have e1:=E.eq pr 2 71;have cc:=(vD.next hR).cell (j:=9) (by omega);simp[lf,ldK]at cc;simp[go_sem,cc,e1]
    ·exact oq rfl fun ev w9 v hR E pr=>by
      have e1:=E.was 0 _;simp[go_sem,e1]
    ·exact oq rfl fun ev w9 v hR E pr=>by
      have e1:=E.eq pr 4 73;simp[go_sem,e1]
    ·exact oq rfl fun ev w9 v hR E pr=>by
      have e1:=E.eq pr 5 74;simp[go_sem,e1]
    ·exact oq rfl fun ev w9 v hR E pr=>by
      have e1:=E.eq pr 6 75;have cc:=(vD.next hR).cell (j:=0) (by omega);simp[lf,ldK]at cc;simp[go_sem,cc,e1]
    ·exact oq rfl fun ev w9 v hR E pr=>by
      have e1:=E.was 0 _;simp[go_sem,e1]
    ·exact oq rfl fun ev w9 v hR E pr=>by
      have e1:=E.eq pr 8 77;simp[go_sem,e1]
    ·exact oq rfl fun ev w9 v hR E pr=>by
      have e1:=E.eq pr 9 78;simp[go_sem,e1]
    ·exact oq rfl fun ev w9 v hR E pr=>by
      have e1:=E.eq pr 10 79;have cc:=(vD.next hR).cell (j:=4) (by omega);simp[lf,ldK]at cc;simp[go_sem,cc,e1]
    ·exact oq rfl fun ev w9 v hR E pr=>by
      have e1:=E.eq pr 11 80;simp[go_sem,e1]
    ·exact oq rfl fun ev w9 v hR E pr=>by
      have e1:=E.eq pr 3 72;have e2:=E.eq pr 7 76;simp[go_sem,hi.1,hi2,e1,e2]
   ·intro ev w9 v hR E hp9
    obtain⟨_,_,_,_,_,_,_,_,_,_,_,_,p12,p13,_⟩:=hp9;have E1:=E.at_ 13 82 rfl (by kernel_rfl) (Nat.le_of_ble_eq_true (by kernel_rfl));have E2:=E.at_ 12 81 rfl (by kernel_rfl) (Nat.le_of_ble_eq_true (by kernel_rfl));rw[p13]at E1;rw[p12]at E2;have hv9:=hvg.next hR;have g9:=gr_setCell w9 g n.id.toNat (.int .i64 ((n.log.length:Nat):Int));have hT9:∀ z,some g=some z->Typed w9 z 2:=fun z e=>by cases e;exact hv9.typed
    exact⟨_,exec_cell rfl E1 E2 hv9 (by simp;omega) (by kernel_rfl) rfl (oneV rfl),OwI.set (hMd.next hR) n.id.toNat (by simp;omega) _,(VHas.gr (VHas.next vD hR) g9 hT9 (by decide)).congr (fun j hj=>by rw[ndL_mat]),(hXd.next hR).apartO g9 (fun z e q=>hne z q e),(hLd.next hR).gr g9 hT9 (by decide),(hVd.next hR).apartO g9 (fun z e q=>hvm z q e),(hGd.rb hR).gr g9 (fun z e=>.inr (.inr (by have:=Option.some.inj e;omega)))⟩
   ·rintro v9 w9 ⟨hM9,vN,hX9,hL9,hV9,hG9⟩
    simp only[List.size_toArray,List.length_cons,List.length_nil,Nat.reduceAdd,Nat.reduceSub,List.take_succ_cons,List.take_zero,putL,Act.put,List.setIfInBounds_toArray,List.set_cons_zero,List.set_cons_succ]
    have HN:Hid (acQ (matN (ldK n n.log k) n.id.toNat)=ldN n):=by
     show _ = _
     simp only[ldN];rw[hA.out];rfl
    have hON:NdO w9 base (matN (ldK n n.log k) n.id.toNat) ⟨lo,lc,vo,vc,no,nc,some ⟨g,0,none⟩,mc⟩:=⟨hL9,hV9,hX9.from hbs,hM9.from hbs,hvn,hvm,hne⟩
    have hzN:NdZ (matN (ldK n n.log k) n.id.toNat) ⟨lo,lc,vo,vc,no,nc,some ⟨g,0,none⟩,mc⟩:=⟨hLz,hzv,by simp[matN,ldK];omega,by simp[matN,ldK];omega,GOwn.cap hL9,GOwn.cap hV9,by simpa[matN,ldK] using GOwn.cap hX9,by simpa[matN,ldK] using GOwn.cap hM9,hLt⟩
    have hmlN:((matN (ldK n n.log k) n.id.toNat).mat.length:Int)=(matN (ldK n n.log k) n.id.toNat).peers:=by simp[matN,ldK];have:=hP.out;omega
    have hx3:(ldN n).role=3->((ldN n).next.length:Int)=(ldN n).peers/\∀ i,i<(ldN n).next.length->1<=iOf (ldN n).next i/\iOf (ldN n).next i<=(ldN n).log.length+1:=fun _=>by
     rw[<-HN.out];simp only[acQ,matN,ldK,List.length_replicate];refine⟨by have:=hP.out;omega,fun i hi=>?_⟩;have e1:iOf (List.replicate k ((n.log.length:Int)+1)) i=(n.log.length:Int)+1:=by simp[iOf,hi]
     rw[e1];omega
    have h3r:(ldN n).role=3:=by rw[<-HN.out];rfl
    have hpr:1<=(ldN n).peers/\(ldN n).peers<=5:=by rw[<-HN.out];exact hp
    have hcN:0<=(matN (ldK n n.log k) n.id.toNat).commit:=hc;have hpN:1<=(matN (ldK n n.log k) n.id.toNat).peers/\(matN (ldK n n.log k) n.id.toNat).peers<=5:=hp;have hzM:NdZ (ldN n) ⟨lo,lc,vo,vc,no,nc,some ⟨g,0,none⟩,mc⟩:=by rw[<-HN.out];exact⟨hzN.l,hzN.v,hzN.x,hzN.m,hzN.lc,hzN.vc,hzN.xc,hzN.mc,hzN.tx⟩
    have hOf:∀ W,RB w9 W\/w9.grownBy W (some b)->NdO W base (ldN n) ⟨lo,lc,vo,vc,no,nc,some ⟨g,0,none⟩,mc⟩:=fun W h=>by
     rw[<-HN.out];rcases h with h|h
     ·exact⟨(hON.next h).l,(hON.next h).v,(hON.next h).x,(hON.next h).m,hvn,hvm,hne⟩
     ·have h2:=hON.gr h (fun z e=>by cases e;exact vN.typed) (by decide) (by decide)
      exact⟨h2.l,h2.v,h2.x,h2.m,hvn,hvm,hne⟩
    clear hM9 hX9 hL9 hV9 vW hX hM hL hV hG vD hvg hXd hMd hLd hVd hGd;have HN2:Hid (∀ W,NdB W b (acQ (matN (ldK n n.log k) n.id.toNat)) ⟨lo,lc,vo,vc,no,nc,some ⟨g,0,none⟩,mc⟩->NdB W b (ldN n) ⟨lo,lc,vo,vc,no,nc,some ⟨g,0,none⟩,mc⟩):=fun W h=>by rw[<-HN.out];exact h
    clear HN;have hMN:=hON.M;generalize matN (ldK n n.log k) n.id.toNat=N at hzN hmlN hcN hpN vN hON HN2 hMN ⊢
    go_wp2_with fail
    refine (specCommit_any N ⟨lo,lc,vo,vc,no,nc,some ⟨g,0,none⟩,mc⟩ hzN b hcN hpN hmlN _ vN hMN).mono ?_;rintro e w2 ⟨rfl,vC,gC⟩;have vM:=HN2.out _ vC;have hO2:=hOf w2 (.inr gC);have hG2:=hG9.gr gC (fun z e=>.inl (Option.some.inj e).symm);have HL:Hid (ldL n=beatL (ldN n)):=rfl;clear vC gC HN2 hOf hON hMN vN hzN hmlN hcN hpN hG9;obtain⟨M,hMe⟩:∃ M,M=ldN n:=⟨_,rfl⟩
    rw[<-hMe]at vM hO2 hx3 h3r hpr hzM HL;replace hMe:Hid (M=ldN n):=hMe;replace h3r:Hid _:=h3r;obtain⟨f0,f1,f2,f3,f4,f5,f6,f7,f8,f9⟩:=cN vM
    go_wp2_with fail
    refine (l11Beat_any M ⟨lo,lc,vo,vc,no,nc,some ⟨g,0,none⟩,mc⟩ hzM hpr hx3 _ hO2.M).mono ?_;rintro e w3 ⟨v3,rfl,hv3,hb3⟩;rw[if_pos h3r.out]at hv3;rw[<-HL.out]at hv3;clear f0 f1 f2 f3 f4 f5 f6 f7 f8 f9;go_wp2;go_ret;have hMe2:=hMe.out;subst hMe2;exact⟨v3,⟨lo,lc,vo,vc,no,nc,some ⟨g,0,none⟩,mc⟩,rfl,VHas.next vM hb3,hO2.next hb3,NetV.from hv3 hG2.size,hG2.rb hb3⟩
 go_wp2_with (first|((with_reducible refine wN 2 (.tmp 7) (.const (.int .i64 3)) (b) 5 (.int .i64 3) (ldJ n n.log) (⟨lo,lc,vo,vc,no,nc,mo,mc⟩) vB ?_);intro Wt vT gT;clear f0 f1 f2 f3 f4 f5 f6 f7 f8 f9;obtain⟨f0,f1,f2,f3,f4,f5,f6,f7,f8,f9⟩:=VHas.c10 vT;simp[lf,ldJ]at f0 f1 f2 f3 f4 f5 f6 f7 f8 f9)|fail)
 clear f0 f1 f2 f3 f4 f5 f6 f7 f8 f9;have hL9:OwE Wt base lo lc n.log:=hO.l.gr gT (ndT vB) (by decide);have hV9:OwI Wt base vo vc n.votes:=hO.v.gr gT (ndT vB) (by decide);have hG9:G2 b r w Wt:=G2.of gT;have hd:RB Wt Wt.drew:=(Below.refl _ _).drew;replace vT:NdB Wt.drew b (ldJ n n.log) ⟨lo,lc,vo,vc,no,nc,mo,mc⟩:=VHas.next vT hd;have hLT:=hL9.next hd;have hVT:=hV9.next hd;have hGT:=hG9.rb hd;have hbsT:base<=Wt.drew.heap.size:=Nat.le_trans hbs hGT.size;clear hO gT hd hL9 hV9 hG9 vB
 refine region_mid (by kernel_rfl) (by kernel_rfl) (by kernel_rfl) 11 [1,2,3,4,5,6,7,8,9,10] [0,12,13] (by kernel_rfl) (by kernel_rfl) (fun _ _=>True)
  (fun W=>NdB W b (ldJ n n.log) ⟨lo,lc,vo,vc,no,nc,mo,mc⟩/\OwI W base vo vc n.votes/\G2 b r w W) (fun _ _ h hb=>⟨VHas.next h.1 hb,h.2.1.next hb,h.2.2.rb hb⟩)
  [isV (.pointer (some ⟨b,0,none⟩)),isV (.pointer (some ⟨b,0,none⟩)),isV (.pointer (some ⟨b,0,none⟩)),isV (.pointer (some ⟨b,4,none⟩)),isV (.slice lo n.log.length lc),isV (.pointer (some ⟨b,0,none⟩)),isV (.pointer (some ⟨b,0,none⟩)),isV (.pointer (some ⟨b,2,none⟩)),isV (.int .i64 n.term),isV (.agg #[.int .i64 n.term,.string { data:=#[110,111,110,101] }]),EL1 [.int .i64 n.term,.string { data:=#[110,111,110,101] }],OaV base (n.log++[(⟨n.term,ldT⟩:En)]),isV (.pointer (some ⟨b,0,none⟩)),isV (.pointer (some ⟨b,4,none⟩))]
  ⟨isV.rb,isV.rb,isV.rb,isV.rb,isV.rb,isV.rb,isV.rb,isV.rb,isV.rb,isV.rb,EL1.rb,OaV.rb,isV.rb,isV.rb,trivial⟩ rfl ?_ ?_ ?_ ?_ _ rfl rfl rfl
  (fun v W=>∃ lo2 lc2,NdB W b (ldJ n (n.log++[(⟨n.term,ldT⟩:En)])) ⟨lo2,lc2,vo,vc,no,nc,mo,mc⟩/\OwE W base lo2 lc2 (n.log++[(⟨n.term,ldT⟩:En)])/\OwI W base vo vc n.votes/\G2 b r w W) ?_ ?_
 ·intro i hi v w1 w2 h _
  simp only[List.mem_cons,List.not_mem_nil,or_false]at hi;rcases hi with rfl|rfl|rfl<;>exact h
 ·intro i hi o ho
  simp only[List.mem_cons,List.not_mem_nil,or_false]at hi;rcases hi with rfl|rfl|rfl|rfl|rfl|rfl|rfl|rfl|rfl|rfl<;>(obtain rfl:=Option.some.inj ho)
  ·exact oq rfl fun ev w9 v hR E pr=>by
    have e1:=E.was 0 _;simp[go_sem,e1]
  ·exact oq rfl fun ev w9 v hR E pr=>by
    have e1:=E.eq pr 1 21;simp[go_sem,e1]
  ·exact oq rfl fun ev w9 v hR E pr=>by
    have e1:=E.eq pr 2 22;simp[go_sem,e1]
  ·exact oq rfl fun ev w9 v hR E pr=>by
    have e1:=E.eq pr 3 23;have cc:=(vT.next hR).cell (j:=4) (by omega);simp[lf,ldJ]at cc;simp[go_sem,cc,e1]
  ·exact oq rfl fun ev w9 v hR E pr=>by
    have e1:=E.was 0 _;simp[go_sem,e1]
  ·exact oq rfl fun ev w9 v hR E pr=>by
    have e1:=E.eq pr 5 25;simp[go_sem,e1]
  ·exact oq rfl fun ev w9 v hR E pr=>by
    have e1:=E.eq pr 6 26;simp[go_sem,e1]
  ·exact oq rfl fun ev w9 v hR E pr=>by
    have e1:=E.eq pr 7 27;have cc:=(vT.next hR).cell (j:=2) (by omega);simp[lf,ldJ]at cc;simp[go_sem,cc,e1]
  ·exact oq rfl fun ev w9 v hR E pr=>by
    have e1:=E.eq pr 8 28;simp[go_sem,e1,E.con]
  ·refine OpOk.val rfl fun ev w9 v hR E pr=>?_
   have e1:=E.eq pr 9 29;exact⟨.slice (some ⟨w9.heap.size,0,none⟩) 1 1,w9.alloc (.cells #[.int .i64 n.term,.string { data:=#[110,111,110,101] }] 47),by simp[go_sem,e1],RB.alloc _ _,EL1.new w9 _ _⟩
 ·intro i h1 h2 h3 o ho
  have hc3:i=0\/i=12\/i=13:=by
   simp at h1 h3;omega
  rcases hc3 with rfl|rfl|rfl<;>(obtain rfl:=Option.some.inj ho)
  ·exact fun ev w9 v hR E pr=>⟨.pointer (some ⟨b,0,none⟩),w9,by simp[go_sem,E.was 0 _],RB.refl _,rfl⟩
  ·intro ev w9 v hR E pr
   have e0:ev (.tmp 20)=v 0:=E.at_ 0 20 rfl (by kernel_rfl) (Nat.le_of_ble_eq_true (by kernel_rfl));have p0:v 0=.pointer (some ⟨b,0,none⟩):=pr 0 (by simp) (by kernel_rfl);rw[p0]at e0;exact⟨.pointer (some ⟨b,0,none⟩),w9,by simp[go_sem,e0],RB.refl _,rfl⟩
  ·intro ev w9 v hR E pr
   have e0:ev (.tmp 32)=v 12:=E.at_ 12 32 rfl (by kernel_rfl) (Nat.le_of_ble_eq_true (by kernel_rfl));have p0:v 12=.pointer (some ⟨b,0,none⟩):=pr 12 (by simp) (by kernel_rfl);rw[p0]at e0;exact⟨.pointer (some ⟨b,4,none⟩),w9,by simp[go_sem,e0],RB.refl _,rfl⟩
 ·intro o ho
  obtain rfl:=Option.some.inj ho;refine MidOk.val fun ev w9 v hR E pr=>?_
  have e1:=E.eq pr 4 24;have e2:EL1 [.int .i64 n.term,.string { data:=#[110,111,110,101] }] (ev (.tmp 30)) w9:=E.get pr 10 30;have hO9:=hLT.next hR;refine ex_mono (one_ok rfl e1 hO9 e2 hzl (Nat.le_trans hbsT hR.size)) ?_;rintro u w8 ⟨hu,hg⟩;have hT9:∀ z,blk lo=some z->Typed w9 z 47:=fun z e=>GOwn.typed hO9 (by rw[ownBlk_eq];exact e)
  exact⟨trivial,⟨VHas.gr (VHas.next vT hR) hg hT9 (by decide),(hVT.next hR).gr hg hT9 (by decide),(hGT.rb hR).gr hg (fun z e=>.inr (.inl (by rw[hr.out];exact e)))⟩,hu⟩
 ·rintro ev w9 v ⟨vP,hVP,hGP⟩ E hk
  obtain⟨lo2,lc2,e1,hown⟩:OaV base (n.log++[(⟨n.term,ldT⟩:En)]) (v 11) w9:=hk 11 (by simp);have e2:v 13=.pointer (some ⟨b,4,none⟩):=hk 13 (by simp);have E1:=E.at_ 11 31 rfl (by kernel_rfl) (Nat.le_of_ble_eq_true (by kernel_rfl));have E2:=E.at_ 13 33 rfl (by kernel_rfl) (Nat.le_of_ble_eq_true (by kernel_rfl));rw[e1]at E1;rw[e2]at E2;exact⟨_,exec_cell rfl E2 E1 vP (by omega) (by kernel_rfl) rfl (oneV rfl),fun _ _=>⟨lo2,lc2,NdB.put vP 4 (by omega) _ (by simp[ldJ]),hown.gr (gr_setCell _ _ _ _) (ndT vP) (by decide),hVP.gr (gr_setCell _ _ _ _) (ndT vP) (by decide),hGP.gr (gr_setCell _ _ _ _) (fun z e=>.inl (Option.some.inj e).symm)⟩⟩
 ·rintro v8 Wt ⟨lo,lc,vT,hL,hV,hG⟩
  simp only[putL,Nat.zero_add,Nat.reduceAdd,Act.put,List.setIfInBounds_toArray,List.set_cons_zero,List.set_cons_succ];obtain⟨L,hLe⟩:∃ L,L=(n.log++[(⟨n.term,ldT⟩:En)]):=⟨_,rfl⟩
  rw[<-hLe]at vT hL;have hLz:L.length<=1048576:=by rw[hLe];simp;omega
  have hLn:n.log.length<=L.length:=by rw[hLe];simp
  have hLt:∀ k,k<L.length->(xOf L k).size<=1048576:=fun k hk=>by
   rw[hLe]at hk ⊢
   by_cases q:k<n.log.length
   ·have e9:xOf (n.log++[⟨n.term,ldT⟩]) k=xOf n.log k:=by simp[xOf,List.getD_eq_getElem?_getD,List.getElem?_append_left q]
    rw[e9];exact hzt k q
   ·obtain rfl:k=n.log.length:=by simp at hk;omega
    simp[xOf,ldT];decide
  have hA:Hid (ldA n=ldK n L P):=by
   show _ = _
   have hr0:roomL (ldM n)=true:=by
    have h1:decide ((ldM n).log.length<200)=true:=decide_eq_true (by show n.log.length<200;omega);have h2:decide (0<(ldM n).term)=true:=decide_eq_true ht;simp only[roomL,h1,h2,Bool.true_and]
   simp only[ldA,hr0,if_true,prA];simp[ldM,ldK,hP.out,hLe]
  replace hLe:Hid _:=hLe;clear hLT hVT hGT hbsT;have hal1:=RB.alloc Wt (.cells #[] 2);have vB1:NdB (Wt.alloc (.cells #[] 2)) b (ldJ n L) ⟨lo,lc,vo,vc,no,nc,mo,mc⟩:=VHas.next vT hal1;obtain⟨f0,f1,f2,f3,f4,f5,f6,f7,f8,f9⟩:=VHas.c10 vT;simp[lf,ldJ]at f0 f1 f2 f3 f4 f5 f6 f7 f8 f9
  go_wp2_with (first|((with_reducible refine wN 25 (.tmp 37) (.tmp 35) (b) 8 (.slice (some ⟨Wt.heap.size,0,none⟩) 0 0) (ldI n L) (⟨lo,lc,vo,vc,some ⟨Wt.heap.size,0,none⟩,0,mo,mc⟩) vB1 ?_);intro Wa va ga;clear f0 f1 f2 f3 f4 f5 f6 f7 f8 f9;have hal2:=RB.alloc Wa (.cells #[] 2);have va2:NdB (Wa.alloc (.cells #[] 2)) b (ldI n L) ⟨lo,lc,vo,vc,some ⟨Wt.heap.size,0,none⟩,0,mo,mc⟩:=VHas.next va hal2;obtain⟨f0,f1,f2,f3,f4,f5,f6,f7,f8,f9⟩:=VHas.c10 va2;simp[lf,ldI]at f0 f1 f2 f3 f4 f5 f6 f7 f8 f9)|((with_reducible refine wN 25 (.tmp 41) (.tmp 39) (b) 9 (.slice (some ⟨Wa.heap.size,0,none⟩) 0 0) (ldK n L 0) (⟨lo,lc,vo,vc,some ⟨Wt.heap.size,0,none⟩,0,some ⟨Wa.heap.size,0,none⟩,0⟩) va2 ?_);intro Wb vb gb;clear f0 f1 f2 f3 f4 f5 f6 f7 f8 f9)|fail)
  clear vT;have sa:Wt.heap.size+1<=Wa.heap.size:=by have h:=ga.size;simpa[World.size_alloc] using h
  have sb:Wa.heap.size+1<=Wb.heap.size:=by have h:=gb.size;simpa[World.size_alloc] using h
  have hgs:=hG.size;have hX0:OwI Wb w.heap.size (some ⟨Wt.heap.size,0,none⟩) 0 (List.replicate 0 ((n.log.length:Int)+1)):=(((OwI.gr (GOwn.empty Wt 2 1 _:OwI _ _ _ _ []) ga (ndT vB1) (by decide)).next hal2).gr gb (ndT va2) (by decide)).from hgs
  have hM0:OwI Wb w.heap.size (some ⟨Wa.heap.size,0,none⟩) 0 (List.replicate 0 0):=(OwI.gr (GOwn.empty Wa 2 1 _:OwI _ _ _ _ []) gb (ndT va2) (by decide)).from (by omega)
  have hL0:OwE Wb base lo lc L:=(((hL.next hal1).gr ga (ndT vB1) (by decide)).next hal2).gr gb (ndT va2) (by decide);have hV0:OwI Wb base vo vc n.votes:=(((hV.next hal1).gr ga (ndT vB1) (by decide)).next hal2).gr gb (ndT va2) (by decide);have hG0:G2 b r w Wb:=(((hG.rb hal1).gr ga (fun z e=>.inl (Option.some.inj e).symm)).rb hal2).gr gb (fun z e=>.inl (Option.some.inj e).symm)
  have hne0:∀ z,blk (some ⟨Wt.heap.size,0,none⟩)=some z->blk (some ⟨Wa.heap.size,0,none⟩)≠some z:=fun z e q=>by
   have h1:Wt.heap.size=z:=Option.some.inj e;have h2:Wa.heap.size=z:=Option.some.inj q;omega
  clear hal1 hal2 vB1 va va2 ga gb hL hV hG sa sb hgs
  go_loopw [4] (fun x4 wr=>∃ (k:Nat) (no mo:Option Addr) (nc mc:Nat),k<=P/\x4=.int .i64 (k:Int)/\NdB wr b (ldK n L k) ⟨lo,lc,vo,vc,no,nc,mo,mc⟩/\OwI wr w.heap.size no nc (List.replicate k ((n.log.length:Int)+1))/\OwI wr w.heap.size mo mc (List.replicate k 0)/\(∀ z,blk no=some z->blk mo≠some z)/\OwE wr base lo lc L/\OwI wr base vo vc n.votes/\G2 b r w wr) (fun x _=>P-(intOf x).toNat)
  case atStart=>exact⟨0,_,_,0,0,Nat.zero_le _,rfl,vb,hX0,hM0,hne0,hL0,hV0,hG0⟩
  case round=>
   obtain⟨k,no,mo,nc,mc,hk,rfl,vW,hX,hM,hne,hL,hV,hG⟩:=hrel;clear vb hX0 hM0 hne0 hL0 hV0 hG0;have hbs2:w.heap.size<=wr.heap.size:=hG.size;obtain⟨f0,f1,f2,f3,f4,f5,f6,f7,f8,f9⟩:=VHas.c10 vW;simp[lf,ldK]at f0 f1 f2 f3 f4 f5 f6 f7 f8 f9
   by_cases hlt:k<P
   ·have hlt':(k:Int)<n.peers:=by have:=hP.out;omega
    have hwk:IntKind.i64.wrap ((k:Int)+1)=(k:Int)+1:=by rw[IntKind.wrap_i64];omega
    have hal:=RB.alloc wr (.cells #[.int .i64 ((n.log.length:Int)+1)] 2);have hrow:=row_one wr ((n.log.length:Int)+1);have vW1:NdB (wr.alloc (.cells #[.int .i64 ((n.log.length:Int)+1)] 2)) b (ldK n L k) ⟨lo,lc,vo,vc,no,nc,mo,mc⟩:=VHas.next vW hal;have hXa:=OwI.rep (hX.next hal);have hMa:=hM.next hal;have hLa:=hL.next hal;have hVa:=hV.next hal;have hsa:w.heap.size<=(wr.alloc (.cells #[.int .i64 ((n.log.length:Int)+1)] 2)).heap.size:=Nat.le_trans hbs2 hal.size;have hGa:=hG.rb hal;have hk1:k+1<=100000000:=by omega
    have hvn:∀ z,blk vo=some z->blk no≠some z:=fun z e q=>by have h1:=hvo.out z e;have h2:=(hX.at q).1;omega
    have hvm:∀ z,blk vo=some z->blk mo≠some z:=fun z e q=>by have h1:=hvo.out z e;have h2:=(hM.at q).1;omega
    clear hal vW hX hM hL hV hG
    go_wp2_with (first|(at_builtin;(with_reducible refine wpList_app rfl (.tmp 54) (.tmp 56) Tryz.elIQ rfl 57 rfl w.heap.size _ no k nc (by simp[go_sem]) hXa (some ⟨wr.heap.size,0,none⟩) 1 1 (fun _=>.int .i64 ((n.log.length:Int)+1)) (by simp[go_sem]) hrow (fun _=>rfl) hk1 hsa ?_);intro no2 nc2 U1 hX1 g1 d1;have hT1:∀ z,(Value.slice no k nc).ownBlock=some z->Typed _ z 2:=(fun z e=>GOwn.typed hXa e);have vU1:NdB U1 b (ldK n L k) ⟨lo,lc,vo,vc,no,nc,mo,mc⟩:=VHas.gr vW1 g1 hT1 (by decide))|((with_reducible refine wpList_nd rfl 25 (.tmp 59) (.tmp 57) rfl rfl (b) 8 (.slice no2 (k+1) nc2) (by simp[go_sem]) (by simp[go_sem]) (ldK1 n L k) (⟨lo,lc,vo,vc,no2,nc2,mo,mc⟩) vU1 (by omega) (by kernel_rfl) (by kernel_rfl) (oneV (by kernel_rfl)) (by simp[ldK,ldK1]) ?_);intro U2 vU2 g2;clear f0 f1 f2 f3 f4 f5 f6 f7 f8 f9;have hn1:=blk_app d1 hMa hne;have hX2:=OwI.gr (OwI.one hX1) g2 (ndT vU1) (by decide);have hM2:=(hMa.apartO g1 (fun z e=>hne z (by rw[<-ownBlk_eq no k nc];exact e))).gr g2 (ndT vU1) (by decide);have hL2:=(hLa.gr g1 hT1 (by decide)).gr g2 (ndT vU1) (by decide);have hV2:=(hVa.apartO g1 (fun z e q=>hvn z q (by rw[<-ownBlk_eq no k nc];exact e))).gr g2 (ndT vU1) (by decide);have hG2:=(hGa.gr g1 (fun z e=>.inr (.inr (GOwn.at hXa e).1))).gr g2 (fun z e=>.inl (Option.some.inj e).symm);have hal2:=RB.alloc U2 (.cells #[.int .i64 0] 2);have hrow2:=row_one U2 0;have vU2b:NdB (U2.alloc (.cells #[.int .i64 0] 2)) b (ldK1 n L k) ⟨lo,lc,vo,vc,no2,nc2,mo,mc⟩:=VHas.next vU2 hal2;have hXb:=hX2.next hal2;have hMb:=OwI.rep (hM2.next hal2);have hMo:=hM2.next hal2;have hLb:=hL2.next hal2;have hVb:=hV2.next hal2;have hsb:w.heap.size<=(U2.alloc (.cells #[.int .i64 0] 2)).heap.size:=Nat.le_trans hG2.size hal2.size;have hGb:=hG2.rb hal2;obtain⟨f0,f1,f2,f3,f4,f5,f6,f7,f8,f9⟩:=VHas.c10 vU2;simp[lf,ldK1]at f0 f1 f2 f3 f4 f5 f6 f7 f8 f9)|(at_builtin;(with_reducible refine wpList_app rfl (.tmp 64) (.tmp 65) Tryz.elIQ rfl 66 rfl w.heap.size _ mo k mc (by simp[go_sem]) hMb (some ⟨U2.heap.size,0,none⟩) 1 1 (fun _=>.int .i64 0) (by simp[go_sem]) hrow2 (fun _=>rfl) hk1 hsb ?_);intro mo2 mc2 U3 hM3 g3 d3;have hT3:∀ z,(Value.slice mo k mc).ownBlock=some z->Typed _ z 2:=(fun z e=>GOwn.typed hMb e);have vU3:NdB U3 b (ldK1 n L k) ⟨lo,lc,vo,vc,no2,nc2,mo,mc⟩:=VHas.gr vU2b g3 hT3 (by decide))|((with_reducible refine wpList_nd rfl 25 (.tmp 68) (.tmp 66) rfl rfl (b) 9 (.slice mo2 (k+1) mc2) (by simp[go_sem]) (by simp[go_sem]) (ldK n L (k+1)) (⟨lo,lc,vo,vc,no2,nc2,mo2,mc2⟩) vU3 (by omega) (by kernel_rfl) (by kernel_rfl) (oneV (by kernel_rfl)) (by simp[ldK,ldK1]) ?_);intro U4 vU4 g4;have hnf:∀ z,blk no2=some z->blk mo2≠some z:=blk_symm (blk_app d3 hXb (blk_symm hn1));have hMf:=OwI.gr (OwI.one hM3) g4 (ndT vU3) (by decide);have hXf:=(hXb.apartO g3 (fun z e q=>hn1 z q (by rw[<-ownBlk_eq mo k mc];exact e))).gr g4 (ndT vU3) (by decide);have hLf:=(hLb.gr g3 hT3 (by decide)).gr g4 (ndT vU3) (by decide);have hVf:=(hVb.apartO g3 (fun z e q=>hvm z q (by rw[<-ownBlk_eq mo k mc];exact e))).gr g4 (ndT vU3) (by decide);have hGf:=(hGb.gr g3 (fun z e=>.inr (.inr (GOwn.at hMb e).1))).gr g4 (fun z e=>.inl (Option.some.inj e).symm);clear f0 f1 f2 f3 f4 f5 f6 f7 f8 f9)|fail)
    go_roundw
    case rel=>exact⟨k+1,no2,mo2,nc2,mc2,by omega,by go_num,vU4,hXf,hMf,hnf,hLf,hVf,hGf⟩
    case measure=>first|(simp[intOf];omega)|(simp[intOf];done)
   obtain rfl:k=P:=by omega
   have hge:¬ (k:Int)<n.peers:=by have:=hP.out;omega
   go_wp2_with fail
   clear f0 f1 f2 f3 f4 f5 f6 f7 f8 f9 hge;have hd:RB wr wr.drew:=(Below.refl _ _).drew;have hXd:=hX.next hd;have hMd:=hM.next hd;have hLd:=hL.next hd;have hVd:=hV.next hd;have hGd:=hG.rb hd;have hvn:∀ z,blk vo=some z->blk no≠some z:=fun z e q=>by have h1:=hvo.out z e;have h2:=(hX.at q).1;omega
   have hvm:∀ z,blk vo=some z->blk mo≠some z:=fun z e q=>by have h1:=hvo.out z e;have h2:=(hM.at q).1;omega
   have hi2:n.id<(k:Int):=by have:=hP.out;omega
   obtain⟨g,eg,hgw,hvg⟩:=hMd.vh (by simp;omega);subst eg;have vD:NdB wr.drew b (ldK n L k) ⟨lo,lc,vo,vc,no,nc,some ⟨g,0,none⟩,mc⟩:=VHas.next vW hd
   refine region_store (by kernel_rfl) (by kernel_rfl) (by kernel_rfl) RB RB.refl RB.trans
    [isV (.pointer (some ⟨b,0,none⟩)),isV (.pointer (some ⟨b,0,none⟩)),isV (.pointer (some ⟨b,9,none⟩)),isV (.slice (some ⟨g,0,none⟩) k mc),isV (.pointer (some ⟨b,0,none⟩)),isV (.pointer (some ⟨b,0,none⟩)),isV (.pointer (some ⟨b,0,none⟩)),isV (.int .i64 n.id),isV (.pointer (some ⟨b,0,none⟩)),isV (.pointer (some ⟨b,0,none⟩)),isV (.pointer (some ⟨b,4,none⟩)),isV (.slice lo L.length lc),isV (.int .i64 (L.length:Int)),isV (.pointer (some ⟨g,n.id.toNat,none⟩))]
    ⟨isV.rb,isV.rb,isV.rb,isV.rb,isV.rb,isV.rb,isV.rb,isV.rb,isV.rb,isV.rb,isV.rb,isV.rb,isV.rb,isV.rb,trivial⟩ rfl ?_ _ rfl rfl rfl
    (fun v w9=>OwI w9 w.heap.size (some ⟨g,0,none⟩) mc ((List.replicate k 0).set n.id.toNat ((L.length:Nat):Int))/\NdB w9 b (matN (ldK n L k) n.id.toNat) ⟨lo,lc,vo,vc,no,nc,some ⟨g,0,none⟩,mc⟩/\OwI w9 w.heap.size no nc (List.replicate k ((n.log.length:Int)+1))/\OwE w9 base lo lc L/\OwI w9 base vo vc n.votes/\G2 b r w w9) ?_ ?_
   ·simp only[List.size_toArray,List.length_cons,List.length_nil,Nat.reduceAdd,Nat.reduceSub,List.take_succ_cons,List.take_zero]
    refine⟨?_,?_,?_,?_,?_,?_,?_,?_,?_,?_,?_,?_,?_,?_,trivial⟩
    ·exact oq rfl fun ev w9 v hR E pr=>by
      have e1:=E.was 0 _;simp[go_sem,e1]
    ·exact oq rfl fun ev w9 v hR E pr=>by
      have e1:=E.eq pr 0 69;simp[go_sem,e1]
    ·exact oq rfl fun ev w9 v hR E pr=>by
      have e1:=E.eq pr 1 70;simp[go_sem,e1]
    ·exact oq rfl fun ev w9 v hR E pr=>by
      have e1:=E.eq pr 2 71;have cc:=(vD.next hR).cell (j:=9) (by omega);simp[lf,ldK]at cc;simp[go_sem,cc,e1]
    ·exact oq rfl fun ev w9 v hR E pr=>by
      have e1:=E.was 0 _;simp[go_sem,e1]
    ·exact oq rfl fun ev w9 v hR E pr=>by
      have e1:=E.eq pr 4 73;simp[go_sem,e1]
    ·exact oq rfl fun ev w9 v hR E pr=>by
      have e1:=E.eq pr 5 74;simp[go_sem,e1]
    ·exact oq rfl fun ev w9 v hR E pr=>by
      have e1:=E.eq pr 6 75;have cc:=(vD.next hR).cell (j:=0) (by omega);simp[lf,ldK]at cc;simp[go_sem,cc,e1]
    ·exact oq rfl fun ev w9 v hR E pr=>by
      have e1:=E.was 0 _;simp[go_sem,e1]
    ·exact oq rfl fun ev w9 v hR E pr=>by
      have e1:=E.eq pr 8 77;simp[go_sem,e1]
    ·exact oq rfl fun ev w9 v hR E pr=>by
      have e1:=E.eq pr 9 78;simp[go_sem,e1]
    ·exact oq rfl fun ev w9 v hR E pr=>by
      have e1:=E.eq pr 10 79;have cc:=(vD.next hR).cell (j:=4) (by omega);simp[lf,ldK]at cc;simp[go_sem,cc,e1]
    ·exact oq rfl fun ev w9 v hR E pr=>by
      have e1:=E.eq pr 11 80;simp[go_sem,e1]
    ·exact oq rfl fun ev w9 v hR E pr=>by
      have e1:=E.eq pr 3 72;have e2:=E.eq pr 7 76;simp[go_sem,hi.1,hi2,e1,e2]
   ·intro ev w9 v hR E hp9
    obtain⟨_,_,_,_,_,_,_,_,_,_,_,_,p12,p13,_⟩:=hp9;have E1:=E.at_ 13 82 rfl (by kernel_rfl) (Nat.le_of_ble_eq_true (by kernel_rfl));have E2:=E.at_ 12 81 rfl (by kernel_rfl) (Nat.le_of_ble_eq_true (by kernel_rfl));rw[p13]at E1;rw[p12]at E2;have hv9:=hvg.next hR;have g9:=gr_setCell w9 g n.id.toNat (.int .i64 ((L.length:Nat):Int));have hT9:∀ z,some g=some z->Typed w9 z 2:=fun z e=>by cases e;exact hv9.typed
    exact⟨_,exec_cell rfl E1 E2 hv9 (by simp;omega) (by kernel_rfl) rfl (oneV rfl),OwI.set (hMd.next hR) n.id.toNat (by simp;omega) _,(VHas.gr (VHas.next vD hR) g9 hT9 (by decide)).congr (fun j hj=>by rw[ndL_mat]),(hXd.next hR).apartO g9 (fun z e q=>hne z q e),(hLd.next hR).gr g9 hT9 (by decide),(hVd.next hR).apartO g9 (fun z e q=>hvm z q e),(hGd.rb hR).gr g9 (fun z e=>.inr (.inr (by have:=Option.some.inj e;omega)))⟩
   ·rintro v9 w9 ⟨hM9,vN,hX9,hL9,hV9,hG9⟩
    simp only[List.size_toArray,List.length_cons,List.length_nil,Nat.reduceAdd,Nat.reduceSub,List.take_succ_cons,List.take_zero,putL,Act.put,List.setIfInBounds_toArray,List.set_cons_zero,List.set_cons_succ]
    have HN:Hid (acQ (matN (ldK n L k) n.id.toNat)=ldN n):=by
     show _ = _
     simp only[ldN];rw[hA.out];rfl
    have hON:NdO w9 base (matN (ldK n L k) n.id.toNat) ⟨lo,lc,vo,vc,no,nc,some ⟨g,0,none⟩,mc⟩:=⟨hL9,hV9,hX9.from hbs,hM9.from hbs,hvn,hvm,hne⟩
    have hzN:NdZ (matN (ldK n L k) n.id.toNat) ⟨lo,lc,vo,vc,no,nc,some ⟨g,0,none⟩,mc⟩:=⟨hLz,hzv,by simp[matN,ldK];omega,by simp[matN,ldK];omega,GOwn.cap hL9,GOwn.cap hV9,by simpa[matN,ldK] using GOwn.cap hX9,by simpa[matN,ldK] using GOwn.cap hM9,hLt⟩
    have hmlN:((matN (ldK n L k) n.id.toNat).mat.length:Int)=(matN (ldK n L k) n.id.toNat).peers:=by simp[matN,ldK];have:=hP.out;omega
    have hx3:(ldN n).role=3->((ldN n).next.length:Int)=(ldN n).peers/\∀ i,i<(ldN n).next.length->1<=iOf (ldN n).next i/\iOf (ldN n).next i<=(ldN n).log.length+1:=fun _=>by
     rw[<-HN.out];simp only[acQ,matN,ldK,List.length_replicate];refine⟨by have:=hP.out;omega,fun i hi=>?_⟩;have e1:iOf (List.replicate k ((n.log.length:Int)+1)) i=(n.log.length:Int)+1:=by simp[iOf,hi]
     rw[e1];omega
    have h3r:(ldN n).role=3:=by rw[<-HN.out];rfl
    have hpr:1<=(ldN n).peers/\(ldN n).peers<=5:=by rw[<-HN.out];exact hp
    have hcN:0<=(matN (ldK n L k) n.id.toNat).commit:=hc;have hpN:1<=(matN (ldK n L k) n.id.toNat).peers/\(matN (ldK n L k) n.id.toNat).peers<=5:=hp;have hzM:NdZ (ldN n) ⟨lo,lc,vo,vc,no,nc,some ⟨g,0,none⟩,mc⟩:=by rw[<-HN.out];exact⟨hzN.l,hzN.v,hzN.x,hzN.m,hzN.lc,hzN.vc,hzN.xc,hzN.mc,hzN.tx⟩
    have hOf:∀ W,RB w9 W\/w9.grownBy W (some b)->NdO W base (ldN n) ⟨lo,lc,vo,vc,no,nc,some ⟨g,0,none⟩,mc⟩:=fun W h=>by
     rw[<-HN.out];rcases h with h|h
     ·exact⟨(hON.next h).l,(hON.next h).v,(hON.next h).x,(hON.next h).m,hvn,hvm,hne⟩
     ·have h2:=hON.gr h (fun z e=>by cases e;exact vN.typed) (by decide) (by decide)
      exact⟨h2.l,h2.v,h2.x,h2.m,hvn,hvm,hne⟩
    clear hM9 hX9 hL9 hV9 vW hX hM hL hV hG vD hvg hXd hMd hLd hVd hGd;have HN2:Hid (∀ W,NdB W b (acQ (matN (ldK n L k) n.id.toNat)) ⟨lo,lc,vo,vc,no,nc,some ⟨g,0,none⟩,mc⟩->NdB W b (ldN n) ⟨lo,lc,vo,vc,no,nc,some ⟨g,0,none⟩,mc⟩):=fun W h=>by rw[<-HN.out];exact h
    clear HN;have hMN:=hON.M;generalize matN (ldK n L k) n.id.toNat=N at hzN hmlN hcN hpN vN hON HN2 hMN ⊢
    go_wp2_with fail
    refine (specCommit_any N ⟨lo,lc,vo,vc,no,nc,some ⟨g,0,none⟩,mc⟩ hzN b hcN hpN hmlN _ vN hMN).mono ?_;rintro e w2 ⟨rfl,vC,gC⟩;have vM:=HN2.out _ vC;have hO2:=hOf w2 (.inr gC);have hG2:=hG9.gr gC (fun z e=>.inl (Option.some.inj e).symm);have HL:Hid (ldL n=beatL (ldN n)):=rfl;clear vC gC HN2 hOf hON hMN vN hzN hmlN hcN hpN hG9;obtain⟨M,hMe⟩:∃ M,M=ldN n:=⟨_,rfl⟩
    rw[<-hMe]at vM hO2 hx3 h3r hpr hzM HL;replace hMe:Hid (M=ldN n):=hMe;replace h3r:Hid _:=h3r;obtain⟨f0,f1,f2,f3,f4,f5,f6,f7,f8,f9⟩:=cN vM
    go_wp2_with fail
    refine (l11Beat_any M ⟨lo,lc,vo,vc,no,nc,some ⟨g,0,none⟩,mc⟩ hzM hpr hx3 _ hO2.M).mono ?_;rintro e w3 ⟨v3,rfl,hv3,hb3⟩;rw[if_pos h3r.out]at hv3;rw[<-HL.out]at hv3;clear f0 f1 f2 f3 f4 f5 f6 f7 f8 f9;go_wp2;go_ret;have hMe2:=hMe.out;subst hMe2;exact⟨v3,⟨lo,lc,vo,vc,no,nc,some ⟨g,0,none⟩,mc⟩,rfl,VHas.next vM hb3,hO2.next hb3,NetV.from hv3 hG2.size,hG2.rb hb3⟩
def t1 (n:Nd):Nd:=⟨n.id,n.peers,n.term+1,n.vote,n.log,n.role,n.commit,n.votes,n.next,n.mat⟩
def t2 (n:Nd):Nd:=⟨n.id,n.peers,n.term+1,n.id,n.log,n.role,n.commit,n.votes,n.next,n.mat⟩
def t3 (n:Nd):Nd:=⟨n.id,n.peers,n.term+1,n.id,n.log,2,n.commit,n.votes,n.next,n.mat⟩
def stN (n:Nd):Nd:=⟨n.id,n.peers,n.term+1,n.id,n.log,2,n.commit,[n.id],n.next,n.mat⟩
def tmB (n:Nd):Bool:=(n.role==3)||(n.term==100000)
def tmN (n:Nd):Nd:=if nodeB n=true then (if tmB n=true then n else if majB n.peers 1=true then ldN (stN n) else stN n) else nd0
def tmL (n:Nd):List Ms:=if nodeB n=true then (if tmB n=true then [] else if majB n.peers 1=true then ldL (stN n) else othL n.id (fun k=>voteM (stN n) (k:Int)) n.peers.toNat) else []
theorem netV_nil (w:World) (b:Nat):NetV b [] (.slice none 0 0) w:=⟨none,0,[],rfl,rfl,NetO.nil _ _⟩
theorem toVote_any (n:Nd) (s:NdS) (hz:NdZ n s) (hp:0<=n.peers/\n.peers<=5) (w:World) (hM:NdM w n s):Calls Tryz.prog 51 #[ndV n s,.func (.func 52) #[] #[]] w fun e w'=>∃ v,e=.returned v/\NetV w.heap.size (othL n.id (fun k=>voteM n (k:Int)) n.peers.toNat) v w'/\RB w w':=
 toOthers_any n s 52 (fun k=>voteM n (k:Int)) n.peers.toNat (by omega) (by omega) w (fun _ _=>by kernel_rfl) (fun W k hk hR=>by
  refine (messageOfVote_any n s hz (k:Int) W (hM.next hR)).mono ?_;rintro e w' ⟨rfl,hb⟩
  exact⟨none,0,rfl,GOwn.nil _ _ _ _ _,hb⟩)
set_option maxRecDepth 100000 in
set_option maxHeartbeats 8000000 in
theorem timeout_any (n:Nd) (s:NdS) (hz:NdZ n s) (aL aE aO:Addr) (w:World) (hG:GlV w aL aE aO) (hM:NdM w n s):Calls Tryz.prog 14 #[ndV n s] w fun e w'=>NmAns (tmN n) (tmL n) w w' e:=by
 have hb:=RB.trans _ _ _ (RB.alloc w (.cells (ndL n s).toArray 27)) (RB.alloc _ (.cells (ndL nd0 ns0).toArray 27));have vA:NdB _ w.heap.size n s:=(ndB_new w n s).next (RB.alloc _ (.cells (ndL nd0 ns0).toArray 27));have vR:=ndB_new (w.alloc (.cells (ndL n s).toArray 27)) nd0 ns0;rw[World.size_alloc]at vR;replace hM:=hM.next hb;replace hG:=hG.next hb;go_enter Tryz.func14,Tryz.ntmps14
 go_wp2_with fail
 generalize ((w.alloc _).alloc _)=W at hb vA vR hM hG ⊢;refine (nodeOk_any n s hz aL aE aO _ hG hM).mono ?_;rintro e w1 ⟨rfl,hb1⟩;replace hb:=RB.trans _ _ _ hb hb1;replace vA:NdB w1 w.heap.size n s:=VHas.next vA hb1;replace vR:NdB w1 (w.heap.size+1) nd0 ns0:=VHas.next vR hb1;replace hM:=hM.next hb1;clear hG hb1;rcases Bool.eq_false_or_eq_true (nodeB n) with hB|hB
 rotate_left
 ·rw[hB]
  have HN:Hid (tmN n=nd0):=by show _ = _;simp[tmN,hB]
  have HL:Hid (tmL n=[]):=by show _ = _;simp[tmL,hB]
  go_wp2_with (first|((with_reducible refine wB 27 (.tmp 2) (.tmp 8) (w.heap.size+1) (ndL (nd0) (ns0)) vR ?_);intro W9 hv9 hg9)|fail)
  obtain⟨q0,q1,q2,q3,q4,q5,q6,q7,q8,q9⟩:=cN hv9;exact bodyPost_ret (v:=.tuple #[ndV nd0 ns0,.slice none 0 0]) (by simp[results,Tryz.results14,go_sem,q0,q1,q2,q3,q4,q5,q6,q7,q8,q9]) rfl (by rw[HN.out,HL.out];exact⟨ns0,_,rfl,(ndO_zero _ 0).M,(ndO_zero W9 0).K,netV_nil _ _,gr_rb hb hg9 (by omega)⟩)
 rw[hB];have hpe:=nodeB_peers hB
 have hte:0<=n.term/\n.term<=100000:=by
  simp[nodeB]at hB;omega
 have hco:0<=n.commit:=by
  simp[nodeB]at hB;omega
 have HN0:Hid (tmN n=if tmB n=true then n else if majB n.peers 1=true then ldN (stN n) else stN n):=by show _ = _;simp[tmN,hB]
 have HL0:Hid (tmL n=if tmB n=true then [] else if majB n.peers 1=true then ldL (stN n) else othL n.id (fun k=>voteM (stN n) (k:Int)) n.peers.toNat):=by show _ = _;simp[tmL,hB]
 clear hB;obtain⟨f0,f1,f2,f3,f4,f5,f6,f7,f8,f9⟩:=cN vA
 go_wp2_with fail
 clear f0 f1 f2 f3 f4 f5 f6 f7 f8 f9;refine (copyOfNode_any n s hz _ hM).mono ?_;rintro e w2 ⟨s2,rfl,hO,hb2⟩;have hsz:w.heap.size+1<w1.heap.size:=vR.lt;have hbase:w1.heap.size<=w2.heap.size:=hb2.size;replace hb:=RB.trans _ _ _ hb hb2;replace vR:NdB w2 (w.heap.size+1) nd0 ns0:=VHas.next vR hb2;clear vA hM hb2;have hal:=RB.alloc w2 (.cells (ndL n s2).toArray 27);have vO:=ndB_new w2 n s2;have hlt2:w.heap.size+1<w2.heap.size:=vR.lt;replace hO:=hO.next hal;replace hb:=RB.trans _ _ _ hb hal;replace vR:NdB _ (w.heap.size+1) nd0 ns0:=VHas.next vR hal;clear hal;obtain⟨f0,f1,f2,f3,f4,f5,f6,f7,f8,f9⟩:=cN vO
 by_cases hx:n.role=3
 ·have hst:tmB n=true:=by simp[tmB,hx]
  have HN:Hid (tmN n=n):=by show _ = _;rw[HN0.out,hst];rfl
  have HL:Hid (tmL n=[]):=by show _ = _;rw[HL0.out,hst];rfl
  have hr':(n.role==3)=true:=by simp[hx]
  clear hst hx
  go_wp2_with (first|((with_reducible refine wB 27 (.tmp 2) (.tmp 19) (w.heap.size+1) (ndL (n) (s2)) vR ?_);intro W9 hv9 hg9)|fail)
  obtain⟨q0,q1,q2,q3,q4,q5,q6,q7,q8,q9⟩:=cN hv9;exact bodyPost_ret (v:=.tuple #[ndV n s2,.slice none 0 0]) (by simp[results,Tryz.results14,go_sem,q0,q1,q2,q3,q4,q5,q6,q7,q8,q9]) rfl (by rw[HN.out,HL.out];exact⟨s2,_,rfl,hO.M.gr hg9 (ndT vR) (by decide) (by decide),hO.K,netV_nil _ _,gr_rb hb hg9 (by omega)⟩)
 have hr':(n.role==3)=false:=by simp[hx]
 clear hx
 by_cases hx:n.term=100000
 ·have hst:tmB n=true:=by simp[tmB,hx]
  have HN:Hid (tmN n=n):=by show _ = _;rw[HN0.out,hst];rfl
  have HL:Hid (tmL n=[]):=by show _ = _;rw[HL0.out,hst];rfl
  have ht':(n.term==100000)=true:=by simp[hx]
  clear hst hx
  go_wp2_with (first|((with_reducible refine wB 27 (.tmp 2) (.tmp 19) (w.heap.size+1) (ndL (n) (s2)) vR ?_);intro W9 hv9 hg9)|fail)
  obtain⟨q0,q1,q2,q3,q4,q5,q6,q7,q8,q9⟩:=cN hv9;exact bodyPost_ret (v:=.tuple #[ndV n s2,.slice none 0 0]) (by simp[results,Tryz.results14,go_sem,q0,q1,q2,q3,q4,q5,q6,q7,q8,q9]) rfl (by rw[HN.out,HL.out];exact⟨s2,_,rfl,hO.M.gr hg9 (ndT vR) (by decide) (by decide),hO.K,netV_nil _ _,gr_rb hb hg9 (by omega)⟩)
 have ht':(n.term==100000)=false:=by simp[hx]
 have hst:tmB n=false:=by simp only[tmB,hr',ht',Bool.or_false]
 have HN1:Hid (tmN n=if majB n.peers 1=true then ldN (stN n) else stN n):=by show _ = _;rw[HN0.out,hst];rfl
 have HL1:Hid (tmL n=if majB n.peers 1=true then ldL (stN n) else othL n.id (fun k=>voteM (stN n) (k:Int)) n.peers.toNat):=by show _ = _;rw[HL0.out,hst];rfl
 have hwt:IntKind.i64.wrap (n.term+1)=n.term+1:=by rw[IntKind.wrap_i64];omega
 clear hx hst HN0 HL0
 go_wp2_with (first|((with_reducible refine wN 2 (.tmp 23) (.tmp 22) (w2.heap.size) 2 (.int .i64 (n.term+1)) (t1 n) (s2) vO ?_);intro Wa va ga;clear f0 f1 f2 f3 f4 f5 f6 f7 f8 f9;obtain⟨f0,f1,f2,f3,f4,f5,f6,f7,f8,f9⟩:=VHas.c10 va;simp[lf,t1]at f0 f1 f2 f3 f4 f5 f6 f7 f8 f9)|((with_reducible refine wN 2 (.tmp 26) (.tmp 25) (w2.heap.size) 3 (.int .i64 n.id) (t2 n) (s2) va ?_);intro Wb vb gb;clear f0 f1 f2 f3 f4 f5 f6 f7 f8 f9;obtain⟨f0,f1,f2,f3,f4,f5,f6,f7,f8,f9⟩:=VHas.c10 vb;simp[lf,t2]at f0 f1 f2 f3 f4 f5 f6 f7 f8 f9)|((with_reducible refine wN 2 (.tmp 27) (.const (.int .i64 2)) (w2.heap.size) 5 (.int .i64 2) (t3 n) (s2) vb ?_);intro Wc vc gc;clear f0 f1 f2 f3 f4 f5 f6 f7 f8 f9;have vc2:NdB (Wc.alloc (.cells #[.int .i64 n.id] 2)) w2.heap.size (t3 n) s2:=VHas.next vc (RB.alloc _ _);obtain⟨f0,f1,f2,f3,f4,f5,f6,f7,f8,f9⟩:=VHas.c10 vc;simp[lf,t3]at f0 f1 f2 f3 f4 f5 f6 f7 f8 f9)|((with_reducible refine wN 25 (.tmp 31) (.tmp 30) (w2.heap.size) 7 (.slice (some ⟨Wc.heap.size,0,none⟩) 1 1) (stN n) (⟨s2.lo,s2.lc,some ⟨Wc.heap.size,0,none⟩,1,s2.no,s2.nc,s2.mo,s2.mc⟩) vc2 ?_);intro Wd vd gd;clear f0 f1 f2 f3 f4 f5 f6 f7 f8 f9;obtain⟨f0,f1,f2,f3,f4,f5,f6,f7,f8,f9⟩:=cN vd)|fail)
 have hal2:=RB.alloc Wc (.cells #[.int .i64 n.id] 2);have hs0:w2.heap.size<(w2.alloc (.cells (ndL n s2).toArray 27)).heap.size:=vO.lt
 have hs1:w2.heap.size+1<=Wa.heap.size:=by
  have h:=ga.size;rw[World.size_alloc]at h;exact h
 have hs2:=gb.size;have hs3:=gc.size;have hbd:=gr_rb (RB.trans _ _ _ (gr_rb (gr_rb (gr_rb hb ga (by omega)) gb (by omega)) gc (by omega)) hal2) gd (by omega);have vRd:NdB Wd (w.heap.size+1) nd0 ns0:=VHas.grown (VHas.next (VHas.grown (VHas.grown (VHas.grown vR ga (fun e=>by have:=Option.some.inj e;omega)) gb (fun e=>by have:=Option.some.inj e;omega)) gc (fun e=>by have:=Option.some.inj e;omega)) hal2) gd (fun e=>by have:=Option.some.inj e;omega);have hOd:=((((hO.gr ga (ndT vO) (by decide) (by decide)).gr gb (ndT va) (by decide) (by decide)).gr gc (ndT vb) (by decide) (by decide)).next hal2).gr gd (ndT vc2) (by decide) (by decide);have hV0:OwI (Wc.alloc (.cells #[.int .i64 n.id] 2)) Wc.heap.size (some ⟨Wc.heap.size,0,none⟩) 1 [n.id]:=GOwn.lit Wc 2 1 1 [.int .i64 n.id] (by decide) rfl;have hV1:OwI Wd w1.heap.size (some ⟨Wc.heap.size,0,none⟩) 1 [n.id]:=(hV0.gr gd (ndT vc2) (by decide)).from (by omega)
 have hOs:NdO Wd w1.heap.size (stN n) ⟨s2.lo,s2.lc,some ⟨Wc.heap.size,0,none⟩,1,s2.no,s2.nc,s2.mo,s2.mc⟩:=⟨hOd.l,hV1,hOd.x,hOd.m,fun b e q=>by
  have h1:Wc.heap.size=b:=Option.some.inj e;have h2:=(hO.x.at q).2;rw[World.size_alloc]at h2;omega,fun b e q=>by
  have h1:Wc.heap.size=b:=Option.some.inj e;have h2:=(hO.m.at q).2;rw[World.size_alloc]at h2
  omega,hOd.xm⟩
 have hzs:NdZ (stN n) ⟨s2.lo,s2.lc,some ⟨Wc.heap.size,0,none⟩,1,s2.no,s2.nc,s2.mo,s2.mc⟩:=⟨hz.l,by simp[stN],hz.x,hz.m,hOs.K.l,hOs.K.v,hOs.K.x,hOs.K.m,hz.tx⟩
 clear hal2 hs0 hs1 hs2 hs3 hb vR hOd hV0 hV1 hO ga gb gc gd vO va vb vc vc2 f0 f1 f2 f3 f4 f5 f6 f7 f8 f9;refine (hasMajority_any (stN n) ⟨s2.lo,s2.lc,some ⟨Wc.heap.size,0,none⟩,1,s2.no,s2.nc,s2.mo,s2.mc⟩ hzs.v _).mono ?_;rintro e w5 ⟨rfl,hb5⟩;have hb:=RB.trans _ _ _ hbd hb5;have vO:NdB w5 w2.heap.size (stN n) ⟨s2.lo,s2.lc,some ⟨Wc.heap.size,0,none⟩,1,s2.no,s2.nc,s2.mo,s2.mc⟩:=VHas.next vd hb5;have vR:NdB w5 (w.heap.size+1) nd0 ns0:=VHas.next vRd hb5;have hO:=hOs.next hb5;have hbs5:w1.heap.size<=w5.heap.size:=Nat.le_trans hbase (Nat.le_of_lt vO.lt);have hmj:majB (stN n).peers (stN n).votes.length=majB n.peers 1:=rfl;rw[hmj];have hpN:Hid (1<=(stN n).peers/\(stN n).peers<=5):=⟨hpe.1,hpe.2.1⟩
 have hiN:Hid (0<=(stN n).id/\(stN n).id<(stN n).peers):=hpe.2.2;have hcN:Hid (0<=(stN n).commit):=hco;have hidN:Hid ((stN n).id=n.id):=rfl;have hpeN:Hid ((stN n).peers=n.peers):=rfl;clear hmj hbd hb5 vd vRd hOs hr' ht' hwt;generalize stN n=N at vO hO hzs HN1 HL1 hpN hiN hcN hidN hpeN ⊢;generalize (⟨s2.lo,s2.lc,some ⟨Wc.heap.size,0,none⟩,1,s2.no,s2.nc,s2.mo,s2.mc⟩:NdS)=s3 at vO hO hzs ⊢;obtain⟨f0,f1,f2,f3,f4,f5,f6,f7,f8,f9⟩:=cN vO;rcases Bool.eq_false_or_eq_true (majB n.peers 1) with hm|hm
 ·rw[hm]
  have HN:Hid (tmN n=ldN N):=by show _ = _;rw[HN1.out,hm];rfl
  have HL:Hid (tmL n=ldL N):=by show _ = _;rw[HL1.out,hm];rfl
  clear hm HN1 HL1
  go_wp2_with fail
  refine (leading_any N s3 hzs hpN.out hiN.out hcN.out w1.heap.size _ hbs5 hO).mono ?_;rintro e w9 ⟨s4,v4,rfl,hM9,hK9,hV9,hC9⟩;have vR9:NdB w9 (w.heap.size+1) nd0 ns0:=VHas.ch vR hC9 (by decide) (by decide);have hb9:RB w w9:=⟨hC9.os.trans hb.os,hC9.tape.trans hb.tape,hC9.output.trans hb.output,Nat.le_trans hb.size hC9.size,fun k hk=>(hC9.block k (Nat.lt_of_lt_of_le hk hb.size) (.inl (by omega))).trans (hb.block k hk)⟩
  have hV:NetV w.heap.size (ldL N) v4 w9:=NetV.from hV9 hb.size
  clear f0 f1 f2 f3 f4 f5 f6 f7 f8 f9 hO vO hC9 hV9 vR
  go_wp2_with (first|((with_reducible refine wB 27 (.tmp 2) (.tmp 36) (w.heap.size+1) (ndL (ldN N) (s4)) vR9 ?_);intro W9 hv9 hg9)|fail)
  obtain⟨q0,q1,q2,q3,q4,q5,q6,q7,q8,q9⟩:=cN hv9;exact bodyPost_ret (v:=.tuple #[ndV (ldN N) s4,v4]) (by simp[results,Tryz.results14,go_sem,q0,q1,q2,q3,q4,q5,q6,q7,q8,q9]) rfl (by rw[HN.out,HL.out];exact⟨s4,v4,rfl,hM9.gr hg9 (ndT vR9) (by decide) (by decide),hK9,NetV.gr hV hg9 vR9.typed,gr_rb hb9 hg9 (by omega)⟩)
 rw[hm];have HN:Hid (tmN n=N):=by show _ = _;rw[HN1.out,hm];rfl
 have HL:Hid (tmL n=(othL n.id (fun k=>voteM N (k:Int)) n.peers.toNat)):=by show _ = _;rw[HL1.out,hm];rfl
 have hM:=hO.M;have hK:=hO.K;have hpN2:Hid (0<=N.peers/\N.peers<=5):=by have:=hpN.out;exact⟨by omega,this.2⟩
 clear hm HN1 HL1 hO
 go_wp2_with fail
 have hd:RB w5 w5.drew:=(Below.refl _ _).drew;replace hb:=RB.trans _ _ _ hb hd;replace vO:NdB w5.drew w2.heap.size N s3:=VHas.next vO hd;replace vR:NdB w5.drew (w.heap.size+1) nd0 ns0:=VHas.next vR hd;replace hM:=hM.next hd;have hbs9:=hb.size;clear hd f0 f1 f2 f3 f4 f5 f6 f7 f8 f9
 refine region_put (by kernel_rfl) (by kernel_rfl) 3 [0,1,2] [2,4] (by kernel_rfl) (by kernel_rfl)
  (fun u v=>u.grownBy v (some (w.heap.size+1))/\Typed u (w.heap.size+1) 27)
  (fun W5=>NdB W5 (w.heap.size+1) N s3/\NdM W5 N s3/\RB w W5)
  (fun a b h hR=>⟨VHas.next h.1 hR,h.2.1.next hR,RB.trans _ _ _ h.2.2 hR⟩)
  [isV (ndV N s3),isV (ndV N s3),NetV w.heap.size (othL n.id (fun k=>voteM N (k:Int)) n.peers.toNat),fun _ _=>True,NetV w.heap.size (othL n.id (fun k=>voteM N (k:Int)) n.peers.toNat)]
  ⟨isV.rb,isV.rb,NetV.rb,fun _ _ _ h _=>h,NetV.rb,trivial⟩ ?_ ?_ (lates ?_) _ rfl rfl ?_ ?_
 ·intro i hi v a b h hx
  simp only[List.mem_cons,List.not_mem_nil,or_false]at hi;rcases hi with rfl|rfl
  ·exact NetV.gr h hx.1 hx.2
  ·exact NetV.gr h hx.1 hx.2
 ·intro i hi o ho
  simp only[List.mem_cons,List.not_mem_nil,or_false]at hi;rcases hi with rfl|rfl|rfl<;>(obtain rfl:=Option.some.inj ho)
  ·exact oq rfl fun ev w' v hR E pr=>by
    have e1:=E.was 4 _;exact exec_nd rfl e1 (vO.next hR)
  ·exact oq rfl fun ev w' v hR E pr=>by
    have e1:=E.was 4 _;exact exec_nd rfl e1 (vO.next hR)
  ·refine OpOk.call rfl fun ev w' v hR E pr=>?_
   have e1:=E.eq pr 1 39;refine⟨51,#[ndV N s3,.func (.func 52) #[] #[]],by simp[go_sem,e1,E.con,E.fn],(toVote_any N s3 hzs hpN2.out _ (hM.next hR)).mono ?_⟩;rintro e w6 ⟨v6,rfl,hn,hb6⟩;rw[hidN.out,hpeN.out]at hn;exact⟨_,rfl,hb6,NetV.from hn (Nat.le_trans hbs9 hR.size)⟩
 ·refine late_skip rfl (late_skip rfl (late_skip rfl (late_skip rfl (late_cons ?_ trivial))))
  intro ev w5 v hR E pr;exact⟨ev (.tmp 40),w5,by simp[go_sem],RB.refl _,E.kept pr 2 40⟩
 ·intro ev w5 v hR E hp
  have E1:ev (.tmp 38)=ndV (N) (s3):=E.get hp 0 38;have E2:ev (.tmp 2)=.pointer (some ⟨w.heap.size+1,0,none⟩):=E.was 2 _;have vR':=VHas.next vR hR;have hg:w5.grownBy (setL w5 (w.heap.size+1) 0 (ndL (N) (s3))) (some (w.heap.size+1)):=gr_setL _ _ 0 _;exact⟨_,exec_box (ndL (N) (s3)) rfl E2 E1 vR' (by kernel_rfl) (oneAll (by kernel_rfl)),⟨hg,vR'.typed⟩,vhas_box _ vR',(hM.next hR).gr hg (ndT vR') (by decide) (by decide),gr_rb (RB.trans _ _ _ hb hR) hg (by omega)⟩
 ·intro v8 w8 hP8 hk8
  have k8:NetV w.heap.size (othL n.id (fun k=>voteM N (k:Int)) n.peers.toNat) (v8 4) w8:=hk8 4 (by decide) (Nat.le_of_ble_eq_true (by kernel_rfl)) (by decide);simp only[putL,Nat.zero_add,Nat.reduceAdd,Act.put,List.setIfInBounds_toArray,List.set_cons_zero,List.set_cons_succ];obtain⟨hv9,hM9,hb9⟩:=hP8;obtain⟨q0,q1,q2,q3,q4,q5,q6,q7,q8,q9⟩:=cN hv9;go_wp2;exact bodyPost_ret (v:=.tuple #[ndV N s3,v8 4]) (by simp[results,Tryz.results14,go_sem,q0,q1,q2,q3,q4,q5,q6,q7,q8,q9]) rfl (by rw[HN.out,HL.out];exact⟨s3,v8 4,rfl,hM9,hK,k8,hb9⟩)
end
end Go.Proofs.YtbabakgjkloabaaGreatDoor
