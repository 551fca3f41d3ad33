/-
  Helpers: Sn6, Tmo.
-/
import Derived.Test.YtbabakgjkloabaaGreatDoorPack14
set_option linter.unusedVariables false
set_option linter.unusedSimpArgs false
set_option maxRecDepth 100000
set_option maxHeartbeats 16000000
namespace Go.Proofs.YtbabakgjkloabaaGreatDoor
section
open Go Go.RowKit
attribute [local go_sem ↓] Go.wp_at_zero Go.wp_at_succ
structure G2(b:Nat)(r:Option Nat)(w w':World):Prop where
 os:w'.os=w.os
 tape:w'.tape=w.tape
 output:w'.output=w.output
 size:w.heap.size<=w'.heap.size
 block:∀ k,k<w.heap.size->k≠b->r≠some k->w'.heap[k]?=w.heap[k]?
theorem G2.gr{b:Nat}{r:Option Nat}{w w' w'':World}{x:Option Nat}(h:G2 b r w w')(hg:w'.grownBy w'' x)(hx:∀ z,x=some z->z=b\/r=some z\/w.heap.size<=z):G2 b r w w'':=
 ⟨hg.os.trans h.os,hg.tape.trans h.tape,hg.output.trans h.output,Nat.le_trans h.size hg.size,fun k hk h1 h2=>(hg.block k (Nat.lt_of_lt_of_le hk h.size) (fun q=>by
  rcases hx k q.symm with h3|h3|h3
  ·exact h1 h3
  ·exact h2 h3
  ·omega)).trans (h.block k hk h1 h2)⟩
theorem G2.rb{b:Nat}{r:Option Nat}{w w' w'':World}(h:G2 b r w w')(hb:RB w' w''):G2 b r w w'':=h.gr (jD (b:=none) hb) (fun z e=>by cases e)
theorem G2.refl(b:Nat)(r:Option Nat)(w:World):G2 b r w w:=⟨rfl,rfl,rfl,Nat.le_refl _,fun _ _ _ _=>rfl⟩
theorem G2.of{b:Nat}{r:Option Nat}{w w':World}(hg:w.grownBy w' (some b)):G2 b r w w':=(G2.refl b r w).gr hg (fun z e=>.inl (oI e).symm)
theorem G2.new{b:Nat}{r:Option Nat}{w w' w'':World}(h:G2 b r w' w'')(hw:RB w w')(h1:w.heap.size<=b)(h2:∀ k,r=some k->w.heap.size<=k):RB w w'':=
 ⟨h.os.trans hw.os,h.tape.trans hw.tape,h.output.trans hw.output,Nat.le_trans hw.size h.size,fun k hk=>(h.block k (Nat.lt_of_lt_of_le hk hw.size) (by omega) (fun q=>by have:=h2 k q;omega)).trans (hw.block k hk)⟩
def gH(n:Nd)(L:List En)(p:Nat):Nd:=⟨n.id,n.peers,n.term,n.vote,L,3,n.commit,n.votes,List.replicate p ((n.log.length:Int)+1),List.replicate p 0⟩
def rC(n:Nd)(L:List En)(p:Nat):Nd:=⟨n.id,n.peers,n.term,n.vote,L,3,n.commit,n.votes,List.replicate (p+1) ((n.log.length:Int)+1),List.replicate p 0⟩
def R6(n:Nd)(L:List En):Nd:=⟨n.id,n.peers,n.term,n.vote,L,3,n.commit,n.votes,n.next,n.mat⟩
def EF(n:Nd)(L:List En):Nd:=⟨n.id,n.peers,n.term,n.vote,L,3,n.commit,n.votes,[],n.mat⟩
theorem OwI.one{w:World}{base:Nat}{ao:Option Addr}{cap p:Nat}{x:Int}(h:GOwn w base 2 1 ao (p+1) cap (fun j=>if j<p*1 then lf (cU (List.replicate p x)) j else .int .i64 x)):OwI w base ao cap (List.replicate (p+1) x):=by
 have e:(List.replicate (p+1) x).length=p+1:=by simp
 unfold OwI;rw[e];refine h.congr (fun j hj=>?_)
 by_cases q:j<p
 ·rw[if_pos (by omega),jF _ j (by simp;omega),jF _ j (by simp;omega)]
  simp[aT,q,show j<p+1 by omega]
 ·rw[if_neg (by omega),jF _ j (by simp;omega)]
  simp[aT,show j<p+1 by omega]
theorem bK(ao:Option Addr)(n c:Nat):(Value.slice ao n c).ownBlock=dI ao:=by cases ao<;>rfl
theorem OwI.apartO{w w':World}{base cap:Nat}{ao:Option Addr}{l:List Int}{x:Option Nat}(h:OwI w base ao cap l)(hg:w.grownBy w' x)(hne:∀ z,x=some z->dI ao≠some z):OwI w' base ao cap l:=GOwn.grown h hg (fun z e q=>hne z q (by rw[<-bK ao l.length cap];exact e))
theorem OwI.rep{w:World}{base cap k:Nat}{ao:Option Addr}{x:Int}(h:OwI w base ao cap (List.replicate k x)):GOwn w base 2 1 ao k cap (lf (cU (List.replicate k x))):=by
 have e:(List.replicate k x).length=k:=by simp
 unfold OwI at h;rw[e]at h;exact h
theorem pJ(w:World)(x:Int):GRow (w.alloc (.cells #[.int .i64 x] 2)) (some ⟨w.heap.size,0,none⟩) (1*1) (fun _=>.int .i64 x):=fun _=>⟨w.heap.size,0,rfl,fun j hj=>by
 obtain rfl:j=0:=by omega
 simp[go_sem]⟩
theorem nN{w:World}{ao ao' bo:Option Addr}{n n' c c' cap base:Nat}{l:List Int}(hd:(Value.slice ao' n' c').ownBlock=(Value.slice ao n c).ownBlock\/(Value.slice ao' n' c').ownBlock=some w.heap.size)(hb:OwI w base bo cap l)(hne:∀ z,dI ao=some z->dI bo≠some z):∀ z,dI ao'=some z->dI bo≠some z:=fun z e q=>by
 rw[bK,bK]at hd;rcases hd with h|h
 ·exact hne z (h.symm.trans e) q
 ·have h1:w.heap.size=z:=oI (h.symm.trans e)
  have:=(hb.at q).2;omega
theorem pK{a b:Option Addr}(h:∀ z,dI a=some z->dI b≠some z):∀ z,dI b=some z->dI a≠some z:=fun z e q=>h z q e
theorem AR{w W:World}{base vc nc:Nat}{vo no:Option Addr}{l k:List Int}(hbs:base<=w.heap.size)(hv:OwI w base vo vc l)(hn:OwI W w.heap.size no nc k):∀ z,dI vo=some z->dI no≠some z:=fun z e q=>by
 have h1:=(hv.at e).2;have h2:=(hn.at q).1;omega
def EL1(vs:List Value)(v:Value)(w:World):Prop:=∃ B,v=.slice (some ⟨B,0,none⟩) 1 1/\VHas w B 47 2 (lf vs)
theorem EL1.rb{vs:List Value}(v:Value)(w w':World)(h:EL1 vs v w)(hb:RB w w'):EL1 vs v w':=by
 obtain⟨B,e,h⟩:=h;exact⟨B,e,h.next hb⟩
theorem EL1.new(w:World)(a b:Value):EL1 [a,b] (.slice (some ⟨w.heap.size,0,none⟩) 1 1) (w.alloc (.cells #[a,b] 47)):=⟨w.heap.size,rfl,bH w [a,b] 47⟩
def OaV(base:Nat)(l:List En)(v:Value)(w:World):Prop:=∃ a c,v=.slice a l.length c/\OwE w base a c l
theorem OaV.rb{base:Nat}{l:List En}(v:Value)(w w':World)(h:OaV base l v w)(hb:RB w w'):OaV base l v w':=by
 obtain⟨a,c,e,h⟩:=h;exact⟨a,c,e,h.next hb⟩
theorem DU{o:Oper}{ev:Operand->Value}{x y:Operand}{base:Nat}{l:List En}{ao:Option Addr}{cap:Nat}{t:Int}{q:ByteArray}{w:World}(ho:o.op=.call { callee:=.builtin .append,args:=#[x,y],argTypes:=#[24,24] })(hx:ev x=.slice ao l.length cap)(hO:OwE w base ao cap l)(hy:EL1 [.int .i64 t,.string q] (ev y) w)(hl:l.length<=1048576)(hb:base<=w.heap.size):
  ∃ u w',(execOp ev o).run Tryz.prog w=.ok (.value u) w'/\OaV base (l++[⟨t,q⟩]) u w'/\w.grownBy w' (dI ao):=by
 obtain⟨B,e2,hB⟩:=hy
 have hgr:GRow w (some ⟨B,0,none⟩) (1*2) (fun j=>if j=0 then .int .i64 t else .string q):=fun _=>⟨B,0,rfl,fun j hj=>by
  rw[Nat.zero_add,hB.cell (by omega)];have:j=0\/j=1:=by omega
  rcases this with rfl|rfl<;>rfl⟩
 obtain⟨ao',cap',w',hrun,hown,hg,_⟩:=lN Tryz.elEnQ w o.type base _ ao l.length cap hO (some ⟨B,0,none⟩) 1 1 _ hgr (fun j=>by
  by_cases q:j=0
  ·simp only[if_pos q];rfl
  ·simp only[if_neg q];rfl) (by omega) hb
 rw[bK]at hg;refine⟨_,w',dP ho hx e2 hrun,⟨ao',cap',by simp,OwE.more (x:=⟨t,q⟩) (hown.congr (fun j hj=>?_))⟩,hg⟩
 by_cases q9:j<l.length*2
 ·simp only[if_pos q9]
 ·have:j-l.length*2=0\/j-l.length*2=1:=by omega
  simp only[if_neg q9];rcases this with h|h<;>rw[h]<;>rfl
def EZ(b base:Nat)(r:Option Nat)(n:Nd)(w w':World)(e:Ending):Prop:=∃ v s',e=.returned v/\NdB w' b (eJ n) s'/\NdO w' base (eJ n) s'/\NetV w.heap.size (wJ n) v w'/\G2 b r w w'
theorem pL(n:Nd)(s:NdS)(hz:NdZ n s)(b base:Nat)(hp:1<=n.peers/\n.peers<=5)(hi:0<=n.id/\n.id<n.peers)(hc:0<=n.commit)(ht:0<n.term)(w:World)(hbs:base<=w.heap.size)(vB:NdB w b n s)(hO:NdO w base n s):Calls Tryz.prog 54 #[.pointer (some ⟨b,0,none⟩)] w fun e w'=>EZ b base (dI s.lo) n w w' e:=by
 obtain⟨hzl,hzv,hzx,hzm,hlc,hvc,hxc,hmc,hzt⟩:=hz;obtain⟨lo,lc,vo,vc,no,nc,mo,mc⟩:=s;obtain⟨P,hP⟩:∃ P:Nat,n.peers=(P:Int):=⟨n.peers.toNat,by omega⟩
 have hP5:P<=5:=by omega
 replace hP:Hid (n.peers=(P:Int)):=hP;obtain⟨r,hr⟩:∃ r,r=dI lo:=⟨_,rfl⟩
 simp only;rw[<-hr];replace hr:Hid (r=dI lo):=hr;have hvo:Hid (∀ z,dI vo=some z->z<w.heap.size):=fun z e=>(hO.v.at e).2
 have hwl:IntKind.i64.wrap ((n.log.length:Int)+1)=(n.log.length:Int)+1:=wi
 obtain⟨f0,f1,f2,f3,f4,f5,f6,f7,f8,f9⟩:=cN vB;go_enter Tryz.func54,Tryz.ntmps54
 by_cases hroom:(n.log.length:Int)<200
 rotate_left
 ·go_wp2_with (first|((with_reducible refine wN 2 (.tmp 7) (.const (.int .i64 3)) (b) 5 (.int .i64 3) (R6 n n.log) (⟨lo,lc,vo,vc,no,nc,mo,mc⟩) vB ?_);intro Wt vT gT;clear f0 f1 f2 f3 f4 f5 f6 f7 f8 f9;have hal1:=ra Wt (.cells #[] 2);have vB1:NdB (Wt.alloc (.cells #[] 2)) b (R6 n n.log) ⟨lo,lc,vo,vc,no,nc,mo,mc⟩:=vn vT hal1;obtain⟨f0,f1,f2,f3,f4,f5,f6,f7,f8,f9⟩:=VHas.c10 vT;simp[lf,R6]at f0 f1 f2 f3 f4 f5 f6 f7 f8 f9)|((with_reducible refine wN 25 (.tmp 37) (.tmp 35) (b) 8 (.slice (some ⟨Wt.heap.size,0,none⟩) 0 0) (EF n n.log) (⟨lo,lc,vo,vc,some ⟨Wt.heap.size,0,none⟩,0,mo,mc⟩) vB1 ?_);intro Wa va ga;clear f0 f1 f2 f3 f4 f5 f6 f7 f8 f9;have hal2:=ra Wa (.cells #[] 2);have va2:NdB (Wa.alloc (.cells #[] 2)) b (EF n n.log) ⟨lo,lc,vo,vc,some ⟨Wt.heap.size,0,none⟩,0,mo,mc⟩:=vn va hal2;obtain⟨f0,f1,f2,f3,f4,f5,f6,f7,f8,f9⟩:=VHas.c10 va2;simp[lf,EF]at f0 f1 f2 f3 f4 f5 f6 f7 f8 f9)|((with_reducible refine wN 25 (.tmp 41) (.tmp 39) (b) 9 (.slice (some ⟨Wa.heap.size,0,none⟩) 0 0) (gH n n.log 0) (⟨lo,lc,vo,vc,some ⟨Wt.heap.size,0,none⟩,0,some ⟨Wa.heap.size,0,none⟩,0⟩) va2 ?_);intro Wb vb gb;clear f0 f1 f2 f3 f4 f5 f6 f7 f8 f9)|fail)
  have hL:OwE Wt base lo lc n.log:=hO.l.gr gT (bA vB) (by decide);have hV:OwI Wt base vo vc n.votes:=hO.v.gr gT (bA vB) (by decide);have hG:G2 b r w Wt:=G2.of gT
  have hA:Hid (pT n=gH n n.log P):=by
   show _ = _
   have hr0:gP (iT n)=false:=by
    have h1:decide ((iT n).log.length<200)=false:=decide_eq_false (by show ¬ n.log.length<200;omega);simp only[gP,h1,Bool.false_and]
   simp only[pT,hr0];simp[iT,gH,hP.out]
  have hLz:n.log.length<=1048576:=hzl;have hLt:∀ k,k<n.log.length->(cS n.log k).size<=1048576:=hzt;have hLn:n.log.length<=n.log.length:=Nat.le_refl _;clear hO gT vT;have sa:Wt.heap.size+1<=Wa.heap.size:=by have h:=ga.size;simpa[World.size_alloc] using h
  have sb:Wa.heap.size+1<=Wb.heap.size:=by have h:=gb.size;simpa[World.size_alloc] using h
  have hgs:=hG.size;have hX0:OwI Wb w.heap.size (some ⟨Wt.heap.size,0,none⟩) 0 (List.replicate 0 ((n.log.length:Int)+1)):=(((OwI.gr (GOwn.empty Wt 2 1 _:OwI _ _ _ _ []) ga (bA vB1) (by decide)).next hal2).gr gb (bA va2) (by decide)).from hgs
  have hM0:OwI Wb w.heap.size (some ⟨Wa.heap.size,0,none⟩) 0 (List.replicate 0 0):=(OwI.gr (GOwn.empty Wa 2 1 _:OwI _ _ _ _ []) gb (bA va2) (by decide)).from (by omega)
  have hL0:OwE Wb base lo lc n.log:=(((hL.next hal1).gr ga (bA vB1) (by decide)).next hal2).gr gb (bA va2) (by decide);have hV0:OwI Wb base vo vc n.votes:=(((hV.next hal1).gr ga (bA vB1) (by decide)).next hal2).gr gb (bA va2) (by decide);have hG0:G2 b r w Wb:=(((hG.rb hal1).gr ga (fun z e=>.inl (oI e).symm)).rb hal2).gr gb (fun z e=>.inl (oI e).symm)
  have hne0:∀ z,dI (some ⟨Wt.heap.size,0,none⟩)=some z->dI (some ⟨Wa.heap.size,0,none⟩)≠some z:=fun z e q=>by
   have h1:Wt.heap.size=z:=oI e;have h2:Wa.heap.size=z:=oI q;omega
  clear hal1 hal2 vB1 va va2 ga gb hL hV hG sa sb hgs
  go_loopw [4] (fun x4 wr=>∃ (k:Nat) (no mo:Option Addr) (nc mc:Nat),k<=P/\x4=.int .i64 (k:Int)/\NdB wr b (gH n n.log k) ⟨lo,lc,vo,vc,no,nc,mo,mc⟩/\OwI wr w.heap.size no nc (List.replicate k ((n.log.length:Int)+1))/\OwI wr w.heap.size mo mc (List.replicate k 0)/\(∀ z,dI no=some z->dI mo≠some z)/\OwE wr base lo lc n.log/\OwI wr base vo vc n.votes/\G2 b r w wr) (fun x _=>P-(intOf x).toNat)
  case atStart=>exact⟨0,_,_,0,0,Nat.zero_le _,rfl,vb,hX0,hM0,hne0,hL0,hV0,hG0⟩
  case round=>
   obtain⟨k,no,mo,nc,mc,hk,rfl,vW,hX,hM,hne,hL,hV,hG⟩:=hrel;clear vb hX0 hM0 hne0 hL0 hV0 hG0;have hbs2:w.heap.size<=wr.heap.size:=hG.size;obtain⟨f0,f1,f2,f3,f4,f5,f6,f7,f8,f9⟩:=VHas.c10 vW;simp[lf,gH]at f0 f1 f2 f3 f4 f5 f6 f7 f8 f9
   by_cases hlt:k<P
   ·have hlt':(k:Int)<n.peers:=by have:=hP.out;omega
    have hwk:IntKind.i64.wrap ((k:Int)+1)=(k:Int)+1:=wi
    have hal:=ra wr (.cells #[.int .i64 ((n.log.length:Int)+1)] 2);have hrow:=pJ wr ((n.log.length:Int)+1);have vW1:NdB (wr.alloc (.cells #[.int .i64 ((n.log.length:Int)+1)] 2)) b (gH n n.log k) ⟨lo,lc,vo,vc,no,nc,mo,mc⟩:=vn vW hal;have hXa:=OwI.rep (hX.next hal);have hMa:=hM.next hal;have hLa:=hL.next hal;have hVa:=hV.next hal;have hsa:w.heap.size<=(wr.alloc (.cells #[.int .i64 ((n.log.length:Int)+1)] 2)).heap.size:=Nat.le_trans hbs2 hal.size;have hGa:=hG.rb hal;have hk1:k+1<=100000000:=by omega
    have hvn:∀ z,dI vo=some z->dI no≠some z:=fun z e q=>by have h1:=hvo.out z e;have h2:=(hX.at q).1;omega
    have hvm:∀ z,dI vo=some z->dI mo≠some z:=fun z e q=>by have h1:=hvo.out z e;have h2:=(hM.at q).1;omega
    clear hal vW hX hM hL hV hG
    go_wp2_with (first|(at_builtin;(with_reducible refine fY rfl (.tmp 54) (.tmp 56) Tryz.elIQ rfl 57 rfl w.heap.size _ no k nc (by simp[go_sem]) hXa (some ⟨wr.heap.size,0,none⟩) 1 1 (fun _=>.int .i64 ((n.log.length:Int)+1)) (by simp[go_sem]) hrow (fun _=>rfl) hk1 hsa ?_);intro no2 nc2 U1 hX1 g1 d1;have hT1:∀ z,(Value.slice no k nc).ownBlock=some z->aG _ z 2:=(fun z e=>GOwn.typed hXa e);have vU1:NdB U1 b (gH n n.log k) ⟨lo,lc,vo,vc,no,nc,mo,mc⟩:=VHas.gr vW1 g1 hT1 (by decide))|((with_reducible refine cG rfl 25 (.tmp 59) (.tmp 57) rfl rfl (b) 8 (.slice no2 (k+1) nc2) (by simp[go_sem]) (by simp[go_sem]) (rC n n.log k) (⟨lo,lc,vo,vc,no2,nc2,mo,mc⟩) vU1 (by omega) (by kernel_rfl) (by kernel_rfl) (dT (by kernel_rfl)) (by simp[gH,rC]) ?_);intro U2 vU2 g2;clear f0 f1 f2 f3 f4 f5 f6 f7 f8 f9;have hn1:=nN d1 hMa hne;have hX2:=OwI.gr (OwI.one hX1) g2 (bA vU1) (by decide);have hM2:=(hMa.apartO g1 (fun z e=>hne z (by rw[<-bK no k nc];exact e))).gr g2 (bA vU1) (by decide);have hL2:=(hLa.gr g1 hT1 (by decide)).gr g2 (bA vU1) (by decide);have hV2:=(hVa.apartO g1 (fun z e q=>hvn z q (by rw[<-bK no k nc];exact e))).gr g2 (bA vU1) (by decide);have hG2:=(hGa.gr g1 (fun z e=>.inr (.inr (GOwn.at hXa e).1))).gr g2 (fun z e=>.inl (oI e).symm);have hal2:=ra U2 (.cells #[.int .i64 0] 2);have hrow2:=pJ U2 0;have vU2b:NdB (U2.alloc (.cells #[.int .i64 0] 2)) b (rC n n.log k) ⟨lo,lc,vo,vc,no2,nc2,mo,mc⟩:=vn vU2 hal2;have hXb:=hX2.next hal2;have hMb:=OwI.rep (hM2.next hal2);have hMo:=hM2.next hal2;have hLb:=hL2.next hal2;have hVb:=hV2.next hal2;have hsb:w.heap.size<=(U2.alloc (.cells #[.int .i64 0] 2)).heap.size:=Nat.le_trans hG2.size hal2.size;have hGb:=hG2.rb hal2;obtain⟨f0,f1,f2,f3,f4,f5,f6,f7,f8,f9⟩:=VHas.c10 vU2;simp[lf,rC]at f0 f1 f2 f3 f4 f5 f6 f7 f8 f9)|(at_builtin;(with_reducible refine fY rfl (.tmp 64) (.tmp 65) Tryz.elIQ rfl 66 rfl w.heap.size _ mo k mc (by simp[go_sem]) hMb (some ⟨U2.heap.size,0,none⟩) 1 1 (fun _=>.int .i64 0) (by simp[go_sem]) hrow2 (fun _=>rfl) hk1 hsb ?_);intro mo2 mc2 U3 hM3 g3 d3;have hT3:∀ z,(Value.slice mo k mc).ownBlock=some z->aG _ z 2:=(fun z e=>GOwn.typed hMb e);have vU3:NdB U3 b (rC n n.log k) ⟨lo,lc,vo,vc,no2,nc2,mo,mc⟩:=VHas.gr vU2b g3 hT3 (by decide))|((with_reducible refine cG rfl 25 (.tmp 68) (.tmp 66) rfl rfl (b) 9 (.slice mo2 (k+1) mc2) (by simp[go_sem]) (by simp[go_sem]) (gH n n.log (k+1)) (⟨lo,lc,vo,vc,no2,nc2,mo2,mc2⟩) vU3 (by omega) (by kernel_rfl) (by kernel_rfl) (dT (by kernel_rfl)) (by simp[gH,rC]) ?_);intro U4 vU4 g4;have hnf:∀ z,dI no2=some z->dI mo2≠some z:=pK (nN d3 hXb (pK hn1));have hMf:=OwI.gr (OwI.one hM3) g4 (bA vU3) (by decide);have hXf:=(hXb.apartO g3 (fun z e q=>hn1 z q (by rw[<-bK mo k mc];exact e))).gr g4 (bA vU3) (by decide);have hLf:=(hLb.gr g3 hT3 (by decide)).gr g4 (bA vU3) (by decide);have hVf:=(hVb.apartO g3 (fun z e q=>hvm z q (by rw[<-bK mo k mc];exact e))).gr g4 (bA vU3) (by decide);have hGf:=(hGb.gr g3 (fun z e=>.inr (.inr (GOwn.at hMb e).1))).gr g4 (fun z e=>.inl (oI e).symm);clear f0 f1 f2 f3 f4 f5 f6 f7 f8 f9)|fail)
    go_roundw
    case rel=>exact⟨k+1,no2,mo2,nc2,mc2,by omega,by go_num,vU4,hXf,hMf,hnf,hLf,hVf,hGf⟩
    case measure=>first|(simp[intOf];omega)|(simp[intOf];done)
   obtain rfl:k=P:=by omega
   have hge:¬ (k:Int)<n.peers:=by have:=hP.out;omega
   go_wp2_with fail
   clear f0 f1 f2 f3 f4 f5 f6 f7 f8 f9 hge;have hd:RB wr wr.drew:=(Below.refl _ _).drew;have hXd:=hX.next hd;have hMd:=hM.next hd;have hLd:=hL.next hd;have hVd:=hV.next hd;have hGd:=hG.rb hd;have hvn:∀ z,dI vo=some z->dI no≠some z:=fun z e q=>by have h1:=hvo.out z e;have h2:=(hX.at q).1;omega
   have hvm:∀ z,dI vo=some z->dI mo≠some z:=fun z e q=>by have h1:=hvo.out z e;have h2:=(hM.at q).1;omega
   have hi2:n.id<(k:Int):=by have:=hP.out;omega
   obtain⟨g,eg,hgw,hvg⟩:=hMd.vh (by simp;omega);subst eg;have vD:NdB wr.drew b (gH n n.log k) ⟨lo,lc,vo,vc,no,nc,some ⟨g,0,none⟩,mc⟩:=vn vW hd
   refine bW (by kernel_rfl) (by kernel_rfl) (by kernel_rfl) RB rr rt
    [isV (.pointer (some ⟨b,0,none⟩)),isV (.pointer (some ⟨b,0,none⟩)),isV (.pointer (some ⟨b,9,none⟩)),isV (.slice (some ⟨g,0,none⟩) k mc),isV (.pointer (some ⟨b,0,none⟩)),isV (.pointer (some ⟨b,0,none⟩)),isV (.pointer (some ⟨b,0,none⟩)),isV (.int .i64 n.id),isV (.pointer (some ⟨b,0,none⟩)),isV (.pointer (some ⟨b,0,none⟩)),isV (.pointer (some ⟨b,4,none⟩)),isV (.slice lo n.log.length lc),isV (.int .i64 (n.log.length:Int)),isV (.pointer (some ⟨g,n.id.toNat,none⟩))]
    ⟨iR,iR,iR,iR,iR,iR,iR,iR,iR,iR,iR,iR,iR,iR,trivial⟩ rfl ?_ _ rfl rfl rfl
    (fun v w9=>OwI w9 w.heap.size (some ⟨g,0,none⟩) mc ((List.replicate k 0).set n.id.toNat ((n.log.length:Nat):Int))/\NdB w9 b (cF (gH n n.log k) n.id.toNat) ⟨lo,lc,vo,vc,no,nc,some ⟨g,0,none⟩,mc⟩/\OwI w9 w.heap.size no nc (List.replicate k ((n.log.length:Int)+1))/\OwE w9 base lo lc n.log/\OwI w9 base vo vc n.votes/\G2 b r w w9) ?_ ?_
   ·simp only[List.size_toArray,List.length_cons,List.length_nil,Nat.reduceAdd,Nat.reduceSub,List.take_succ_cons,List.take_zero]
    refine⟨?_,?_,?_,?_,?_,?_,?_,?_,?_,?_,?_,?_,?_,?_,trivial⟩
    ·exact ow 0
    ·exact o1 0 69
    ·exact o1 1 70
    ·exact oq rfl fun ev w9 v hR E pr=>by
      have e1:=E.eq pr 2 71;have cc:=(vD.next hR).cell (j:=9) (by omega);simp[lf,gH]at cc;simp[go_sem,cc,e1]
    ·exact ow 0
    ·exact o1 4 73
    ·exact o1 5 74
    ·exact oq rfl fun ev w9 v hR E pr=>by
      have e1:=E.eq pr 6 75;have cc:=(vD.next hR).cell (j:=0) (by omega);simp[lf,gH]at cc;simp[go_sem,cc,e1]
    ·exact ow 0
    ·exact o1 8 77
    ·exact o1 9 78
    ·exact oq rfl fun ev w9 v hR E pr=>by
      have e1:=E.eq pr 10 79;have cc:=(vD.next hR).cell (j:=4) (by omega);simp[lf,gH]at cc;simp[go_sem,cc,e1]
    ·exact o1 11 80
    ·exact oq rfl fun ev w9 v hR E pr=>by
      have e1:=E.eq pr 3 72;have e2:=E.eq pr 7 76;simp[go_sem,hi.1,hi2,e1,e2]
   ·intro ev w9 v hR E hp9
    obtain⟨_,_,_,_,_,_,_,_,_,_,_,_,p12,p13,_⟩:=hp9;have E1:=E.at_ 13 82 rfl (by kernel_rfl) (nb (by kernel_rfl));have E2:=E.at_ 12 81 rfl (by kernel_rfl) (nb (by kernel_rfl));rw[p13]at E1;rw[p12]at E2;have hv9:=hvg.next hR;have g9:=aC w9 g n.id.toNat (.int .i64 ((n.log.length:Nat):Int));have hT9:∀ z,some g=some z->aG w9 z 2:=fun z e=>by cases e;exact hv9.typed
    exact⟨_,cI rfl E1 E2 hv9 (by simp;omega) (by kernel_rfl) rfl (dT rfl),OwI.set (hMd.next hR) n.id.toNat (by simp;omega) _,(VHas.gr (vn vD hR) g9 hT9 (by decide)).congr (fun j hj=>by rw[rH]),(hXd.next hR).apartO g9 (fun z e q=>hne z q e),(hLd.next hR).gr g9 hT9 (by decide),(hVd.next hR).apartO g9 (fun z e q=>hvm z q e),(hGd.rb hR).gr g9 (fun z e=>.inr (.inr (by have:=oI e;omega)))⟩
   ·rintro v9 w9 ⟨hM9,vN,hX9,hL9,hV9,hG9⟩
    simp only[List.size_toArray,List.length_cons,List.length_nil,Nat.reduceAdd,Nat.reduceSub,List.take_succ_cons,List.take_zero,bF,Act.put,sY,sZ,ss]
    have HN:Hid (G5 (cF (gH n n.log k) n.id.toNat)=eJ n):=by
     show _ = _
     simp only[eJ];rw[hA.out];rfl
    have hON:NdO w9 base (cF (gH n n.log k) n.id.toNat) ⟨lo,lc,vo,vc,no,nc,some ⟨g,0,none⟩,mc⟩:=⟨hL9,hV9,hX9.from hbs,hM9.from hbs,hvn,hvm,hne⟩
    have hzN:NdZ (cF (gH n n.log k) n.id.toNat) ⟨lo,lc,vo,vc,no,nc,some ⟨g,0,none⟩,mc⟩:=⟨hLz,hzv,by simp[cF,gH];omega,by simp[cF,gH];omega,GOwn.cap hL9,GOwn.cap hV9,by simpa[cF,gH] using GOwn.cap hX9,by simpa[cF,gH] using GOwn.cap hM9,hLt⟩
    have hmlN:((cF (gH n n.log k) n.id.toNat).mat.length:Int)=(cF (gH n n.log k) n.id.toNat).peers:=by simp[cF,gH];have:=hP.out;omega
    have hx3:(eJ n).role=3->((eJ n).next.length:Int)=(eJ n).peers/\∀ i,i<(eJ n).next.length->1<=aT (eJ n).next i/\aT (eJ n).next i<=(eJ n).log.length+1:=fun _=>by
     rw[<-HN.out];simp only[G5,cF,gH,List.length_replicate];refine⟨by have:=hP.out;omega,fun i hi=>?_⟩;have e1:aT (List.replicate k ((n.log.length:Int)+1)) i=(n.log.length:Int)+1:=by simp[aT,hi]
     rw[e1];omega
    have h3r:(eJ n).role=3:=by rw[<-HN.out];rfl
    have hpr:1<=(eJ n).peers/\(eJ n).peers<=5:=by rw[<-HN.out];exact hp
    have hcN:0<=(cF (gH n n.log k) n.id.toNat).commit:=hc;have hpN:1<=(cF (gH n n.log k) n.id.toNat).peers/\(cF (gH n n.log k) n.id.toNat).peers<=5:=hp;have hzM:NdZ (eJ n) ⟨lo,lc,vo,vc,no,nc,some ⟨g,0,none⟩,mc⟩:=by rw[<-HN.out];exact⟨hzN.l,hzN.v,hzN.x,hzN.m,hzN.lc,hzN.vc,hzN.xc,hzN.mc,hzN.tx⟩
    have hOf:∀ W,RB w9 W\/w9.grownBy W (some b)->NdO W base (eJ n) ⟨lo,lc,vo,vc,no,nc,some ⟨g,0,none⟩,mc⟩:=fun W h=>by
     rw[<-HN.out];rcases h with h|h
     ·exact⟨(hON.next h).l,(hON.next h).v,(hON.next h).x,(hON.next h).m,hvn,hvm,hne⟩
     ·have h2:=hON.gr h (fun z e=>by cases e;exact vN.typed) (by decide) (by decide)
      exact⟨h2.l,h2.v,h2.x,h2.m,hvn,hvm,hne⟩
    clear hM9 hX9 hL9 hV9 vW hX hM hL hV hG vD hvg hXd hMd hLd hVd hGd;have HN2:Hid (∀ W,NdB W b (G5 (cF (gH n n.log k) n.id.toNat)) ⟨lo,lc,vo,vc,no,nc,some ⟨g,0,none⟩,mc⟩->NdB W b (eJ n) ⟨lo,lc,vo,vc,no,nc,some ⟨g,0,none⟩,mc⟩):=fun W h=>by rw[<-HN.out];exact h
    clear HN;have hMN:=hON.M;generalize cF (gH n n.log k) n.id.toNat=N at hzN hmlN hcN hpN vN hON HN2 hMN ⊢
    go_wp2_with fail
    refine (gN N ⟨lo,lc,vo,vc,no,nc,some ⟨g,0,none⟩,mc⟩ hzN b hcN hpN hmlN _ vN hMN).mono ?_;rintro e w2 ⟨rfl,vC,gC⟩;have vM:=HN2.out _ vC;have hO2:=hOf w2 (.inr gC);have hG2:=hG9.gr gC (fun z e=>.inl (oI e).symm);have HL:Hid (wJ n=dU (eJ n)):=rfl;clear vC gC HN2 hOf hON hMN vN hzN hmlN hcN hpN hG9;obtain⟨M,hMe⟩:∃ M,M=eJ n:=⟨_,rfl⟩
    rw[<-hMe]at vM hO2 hx3 h3r hpr hzM HL;replace hMe:Hid (M=eJ n):=hMe;replace h3r:Hid _:=h3r;obtain⟨f0,f1,f2,f3,f4,f5,f6,f7,f8,f9⟩:=cN vM
    go_wp2_with fail
    refine (mM M ⟨lo,lc,vo,vc,no,nc,some ⟨g,0,none⟩,mc⟩ hzM hpr hx3 _ hO2.M).mono ?_;rintro e w3 ⟨v3,rfl,hv3,hb3⟩;rw[if_pos h3r.out]at hv3;rw[<-HL.out]at hv3;clear f0 f1 f2 f3 f4 f5 f6 f7 f8 f9;go_wp2;go_ret;have hMe2:=hMe.out;subst hMe2;exact⟨v3,⟨lo,lc,vo,vc,no,nc,some ⟨g,0,none⟩,mc⟩,rfl,vn vM hb3,hO2.next hb3,NetV.from hv3 hG2.size,hG2.rb hb3⟩
 go_wp2_with (first|((with_reducible refine wN 2 (.tmp 7) (.const (.int .i64 3)) (b) 5 (.int .i64 3) (R6 n n.log) (⟨lo,lc,vo,vc,no,nc,mo,mc⟩) vB ?_);intro Wt vT gT;clear f0 f1 f2 f3 f4 f5 f6 f7 f8 f9;obtain⟨f0,f1,f2,f3,f4,f5,f6,f7,f8,f9⟩:=VHas.c10 vT;simp[lf,R6]at f0 f1 f2 f3 f4 f5 f6 f7 f8 f9)|fail)
 clear f0 f1 f2 f3 f4 f5 f6 f7 f8 f9;have hL9:OwE Wt base lo lc n.log:=hO.l.gr gT (bA vB) (by decide);have hV9:OwI Wt base vo vc n.votes:=hO.v.gr gT (bA vB) (by decide);have hG9:G2 b r w Wt:=G2.of gT;have hd:RB Wt Wt.drew:=(Below.refl _ _).drew;replace vT:NdB Wt.drew b (R6 n n.log) ⟨lo,lc,vo,vc,no,nc,mo,mc⟩:=vn vT hd;have hLT:=hL9.next hd;have hVT:=hV9.next hd;have hGT:=hG9.rb hd;have hbsT:base<=Wt.drew.heap.size:=Nat.le_trans hbs hGT.size;clear hO gT hd hL9 hV9 hG9 vB
 refine lU (by kernel_rfl) (by kernel_rfl) (by kernel_rfl) 11 [1,2,3,4,5,6,7,8,9,10] [0,12,13] (by kernel_rfl) (by kernel_rfl) (fun _ _=>True)
  (fun W=>NdB W b (R6 n n.log) ⟨lo,lc,vo,vc,no,nc,mo,mc⟩/\OwI W base vo vc n.votes/\G2 b r w W) (fun _ _ h hb=>⟨vn h.1 hb,h.2.1.next hb,h.2.2.rb hb⟩)
  [isV (.pointer (some ⟨b,0,none⟩)),isV (.pointer (some ⟨b,0,none⟩)),isV (.pointer (some ⟨b,0,none⟩)),isV (.pointer (some ⟨b,4,none⟩)),isV (.slice lo n.log.length lc),isV (.pointer (some ⟨b,0,none⟩)),isV (.pointer (some ⟨b,0,none⟩)),isV (.pointer (some ⟨b,2,none⟩)),isV (.int .i64 n.term),isV (.agg #[.int .i64 n.term,.string { data:=#[110,111,110,101] }]),EL1 [.int .i64 n.term,.string { data:=#[110,111,110,101] }],OaV base (n.log++[(⟨n.term,oP⟩:En)]),isV (.pointer (some ⟨b,0,none⟩)),isV (.pointer (some ⟨b,4,none⟩))]
  ⟨iR,iR,iR,iR,iR,iR,iR,iR,iR,iR,EL1.rb,OaV.rb,iR,iR,trivial⟩ rfl ?_ ?_ ?_ ?_ _ rfl rfl rfl
  (fun v W=>∃ lo2 lc2,NdB W b (R6 n (n.log++[(⟨n.term,oP⟩:En)])) ⟨lo2,lc2,vo,vc,no,nc,mo,mc⟩/\OwE W base lo2 lc2 (n.log++[(⟨n.term,oP⟩:En)])/\OwI W base vo vc n.votes/\G2 b r w W) ?_ ?_
 ·intro i hi v w1 w2 h _
  simp only[List.mem_cons,List.not_mem_nil,or_false]at hi;rcases hi with rfl|rfl|rfl<;>exact h
 ·intro i hi o ho
  simp only[List.mem_cons,List.not_mem_nil,or_false]at hi;rcases hi with rfl|rfl|rfl|rfl|rfl|rfl|rfl|rfl|rfl|rfl<;>(obtain rfl:=oI ho)
  ·exact ow 0
  ·exact o1 1 21
  ·exact o1 2 22
  ·exact oq rfl fun ev w9 v hR E pr=>by
    have e1:=E.eq pr 3 23;have cc:=(vT.next hR).cell (j:=4) (by omega);simp[lf,R6]at cc;simp[go_sem,cc,e1]
  ·exact ow 0
  ·exact o1 5 25
  ·exact o1 6 26
  ·exact oq rfl fun ev w9 v hR E pr=>by
    have e1:=E.eq pr 7 27;have cc:=(vT.next hR).cell (j:=2) (by omega);simp[lf,R6]at cc;simp[go_sem,cc,e1]
  ·exact o1 8 28
  ·refine OpOk.val rfl fun ev w9 v hR E pr=>?_
   have e1:=E.eq pr 9 29;exact⟨.slice (some ⟨w9.heap.size,0,none⟩) 1 1,w9.alloc (.cells #[.int .i64 n.term,.string { data:=#[110,111,110,101] }] 47),by simp[go_sem,e1],ra _ _,EL1.new w9 _ _⟩
 ·intro i h1 h2 h3 o ho
  have hc3:i=0\/i=12\/i=13:=by
   simp at h1 h3;omega
  rcases hc3 with rfl|rfl|rfl<;>(obtain rfl:=oI ho)
  ·exact fun ev w9 v hR E pr=>⟨.pointer (some ⟨b,0,none⟩),w9,by simp[go_sem,E.was 0 _],rr _,rfl⟩
  ·intro ev w9 v hR E pr
   have e0:ev (.tmp 20)=v 0:=E.at_ 0 20 rfl (by kernel_rfl) (nb (by kernel_rfl));have p0:v 0=.pointer (some ⟨b,0,none⟩):=pr 0 (by simp) (by kernel_rfl);rw[p0]at e0;exact⟨.pointer (some ⟨b,0,none⟩),w9,by simp[go_sem,e0],rr _,rfl⟩
  ·intro ev w9 v hR E pr
   have e0:ev (.tmp 32)=v 12:=E.at_ 12 32 rfl (by kernel_rfl) (nb (by kernel_rfl));have p0:v 12=.pointer (some ⟨b,0,none⟩):=pr 12 (by simp) (by kernel_rfl);rw[p0]at e0;exact⟨.pointer (some ⟨b,4,none⟩),w9,by simp[go_sem,e0],rr _,rfl⟩
 ·intro o ho
  obtain rfl:=oI ho;refine MidOk.val fun ev w9 v hR E pr=>?_
  have e1:=E.eq pr 4 24;have e2:EL1 [.int .i64 n.term,.string { data:=#[110,111,110,101] }] (ev (.tmp 30)) w9:=E.get pr 10 30;have hO9:=hLT.next hR;refine iY (DU rfl e1 hO9 e2 hzl (Nat.le_trans hbsT hR.size)) ?_;rintro u w8 ⟨hu,hg⟩;have hT9:∀ z,dI lo=some z->aG w9 z 47:=fun z e=>GOwn.typed hO9 (by rw[bK];exact e)
  exact⟨trivial,⟨VHas.gr (vn vT hR) hg hT9 (by decide),(hVT.next hR).gr hg hT9 (by decide),(hGT.rb hR).gr hg (fun z e=>.inr (.inl (by rw[hr.out];exact e)))⟩,hu⟩
 ·rintro ev w9 v ⟨vP,hVP,hGP⟩ E hk
  obtain⟨lo2,lc2,e1,hown⟩:OaV base (n.log++[(⟨n.term,oP⟩:En)]) (v 11) w9:=hk 11 (by simp);have e2:v 13=.pointer (some ⟨b,4,none⟩):=hk 13 (by simp);have E1:=E.at_ 11 31 rfl (by kernel_rfl) (nb (by kernel_rfl));have E2:=E.at_ 13 33 rfl (by kernel_rfl) (nb (by kernel_rfl));rw[e1]at E1;rw[e2]at E2;exact⟨_,cI rfl E2 E1 vP (by omega) (by kernel_rfl) rfl (dT rfl),fun _ _=>⟨lo2,lc2,NdB.put vP 4 (by omega) _ (by simp[R6]),hown.gr (aC _ _ _ _) (bA vP) (by decide),hVP.gr (aC _ _ _ _) (bA vP) (by decide),hGP.gr (aC _ _ _ _) (fun z e=>.inl (oI e).symm)⟩⟩
 ·rintro v8 Wt ⟨lo,lc,vT,hL,hV,hG⟩
  simp only[bF,Nat.zero_add,Nat.reduceAdd,Act.put,sY,sZ,ss];obtain⟨L,hLe⟩:∃ L,L=(n.log++[(⟨n.term,oP⟩:En)]):=⟨_,rfl⟩
  rw[<-hLe]at vT hL;have hLz:L.length<=1048576:=by rw[hLe];simp;omega
  have hLn:n.log.length<=L.length:=by rw[hLe];simp
  have hLt:∀ k,k<L.length->(cS L k).size<=1048576:=fun k hk=>by
   rw[hLe]at hk ⊢
   by_cases q:k<n.log.length
   ·have e9:cS (n.log++[⟨n.term,oP⟩]) k=cS n.log k:=by simp[cS,List.getD_eq_getElem?_getD,List.getElem?_append_left q]
    rw[e9];exact hzt k q
   ·obtain rfl:k=n.log.length:=by simp at hk;omega
    simp[cS,oP];decide
  have hA:Hid (pT n=gH n L P):=by
   show _ = _
   have hr0:gP (iT n)=true:=by
    have h1:decide ((iT n).log.length<200)=true:=decide_eq_true (by show n.log.length<200;omega);have h2:decide (0<(iT n).term)=true:=decide_eq_true ht;simp only[gP,h1,h2,Bool.true_and]
   simp only[pT,hr0,if_true,iO];simp[iT,gH,hP.out,hLe]
  replace hLe:Hid _:=hLe;clear hLT hVT hGT hbsT;have hal1:=ra Wt (.cells #[] 2);have vB1:NdB (Wt.alloc (.cells #[] 2)) b (R6 n L) ⟨lo,lc,vo,vc,no,nc,mo,mc⟩:=vn vT hal1;obtain⟨f0,f1,f2,f3,f4,f5,f6,f7,f8,f9⟩:=VHas.c10 vT;simp[lf,R6]at f0 f1 f2 f3 f4 f5 f6 f7 f8 f9
  go_wp2_with (first|((with_reducible refine wN 25 (.tmp 37) (.tmp 35) (b) 8 (.slice (some ⟨Wt.heap.size,0,none⟩) 0 0) (EF n L) (⟨lo,lc,vo,vc,some ⟨Wt.heap.size,0,none⟩,0,mo,mc⟩) vB1 ?_);intro Wa va ga;clear f0 f1 f2 f3 f4 f5 f6 f7 f8 f9;have hal2:=ra Wa (.cells #[] 2);have va2:NdB (Wa.alloc (.cells #[] 2)) b (EF n L) ⟨lo,lc,vo,vc,some ⟨Wt.heap.size,0,none⟩,0,mo,mc⟩:=vn va hal2;obtain⟨f0,f1,f2,f3,f4,f5,f6,f7,f8,f9⟩:=VHas.c10 va2;simp[lf,EF]at f0 f1 f2 f3 f4 f5 f6 f7 f8 f9)|((with_reducible refine wN 25 (.tmp 41) (.tmp 39) (b) 9 (.slice (some ⟨Wa.heap.size,0,none⟩) 0 0) (gH n L 0) (⟨lo,lc,vo,vc,some ⟨Wt.heap.size,0,none⟩,0,some ⟨Wa.heap.size,0,none⟩,0⟩) va2 ?_);intro Wb vb gb;clear f0 f1 f2 f3 f4 f5 f6 f7 f8 f9)|fail)
  clear vT;have sa:Wt.heap.size+1<=Wa.heap.size:=by have h:=ga.size;simpa[World.size_alloc] using h
  have sb:Wa.heap.size+1<=Wb.heap.size:=by have h:=gb.size;simpa[World.size_alloc] using h
  have hgs:=hG.size;have hX0:OwI Wb w.heap.size (some ⟨Wt.heap.size,0,none⟩) 0 (List.replicate 0 ((n.log.length:Int)+1)):=(((OwI.gr (GOwn.empty Wt 2 1 _:OwI _ _ _ _ []) ga (bA vB1) (by decide)).next hal2).gr gb (bA va2) (by decide)).from hgs
  have hM0:OwI Wb w.heap.size (some ⟨Wa.heap.size,0,none⟩) 0 (List.replicate 0 0):=(OwI.gr (GOwn.empty Wa 2 1 _:OwI _ _ _ _ []) gb (bA va2) (by decide)).from (by omega)
  have hL0:OwE Wb base lo lc L:=(((hL.next hal1).gr ga (bA vB1) (by decide)).next hal2).gr gb (bA va2) (by decide);have hV0:OwI Wb base vo vc n.votes:=(((hV.next hal1).gr ga (bA vB1) (by decide)).next hal2).gr gb (bA va2) (by decide);have hG0:G2 b r w Wb:=(((hG.rb hal1).gr ga (fun z e=>.inl (oI e).symm)).rb hal2).gr gb (fun z e=>.inl (oI e).symm)
  have hne0:∀ z,dI (some ⟨Wt.heap.size,0,none⟩)=some z->dI (some ⟨Wa.heap.size,0,none⟩)≠some z:=fun z e q=>by
   have h1:Wt.heap.size=z:=oI e;have h2:Wa.heap.size=z:=oI q;omega
  clear hal1 hal2 vB1 va va2 ga gb hL hV hG sa sb hgs
  go_loopw [4] (fun x4 wr=>∃ (k:Nat) (no mo:Option Addr) (nc mc:Nat),k<=P/\x4=.int .i64 (k:Int)/\NdB wr b (gH n L k) ⟨lo,lc,vo,vc,no,nc,mo,mc⟩/\OwI wr w.heap.size no nc (List.replicate k ((n.log.length:Int)+1))/\OwI wr w.heap.size mo mc (List.replicate k 0)/\(∀ z,dI no=some z->dI mo≠some z)/\OwE wr base lo lc L/\OwI wr base vo vc n.votes/\G2 b r w wr) (fun x _=>P-(intOf x).toNat)
  case atStart=>exact⟨0,_,_,0,0,Nat.zero_le _,rfl,vb,hX0,hM0,hne0,hL0,hV0,hG0⟩
  case round=>
   obtain⟨k,no,mo,nc,mc,hk,rfl,vW,hX,hM,hne,hL,hV,hG⟩:=hrel;clear vb hX0 hM0 hne0 hL0 hV0 hG0;have hbs2:w.heap.size<=wr.heap.size:=hG.size;obtain⟨f0,f1,f2,f3,f4,f5,f6,f7,f8,f9⟩:=VHas.c10 vW;simp[lf,gH]at f0 f1 f2 f3 f4 f5 f6 f7 f8 f9
   by_cases hlt:k<P
   ·have hlt':(k:Int)<n.peers:=by have:=hP.out;omega
    have hwk:IntKind.i64.wrap ((k:Int)+1)=(k:Int)+1:=wi
    have hal:=ra wr (.cells #[.int .i64 ((n.log.length:Int)+1)] 2);have hrow:=pJ wr ((n.log.length:Int)+1);have vW1:NdB (wr.alloc (.cells #[.int .i64 ((n.log.length:Int)+1)] 2)) b (gH n L k) ⟨lo,lc,vo,vc,no,nc,mo,mc⟩:=vn vW hal;have hXa:=OwI.rep (hX.next hal);have hMa:=hM.next hal;have hLa:=hL.next hal;have hVa:=hV.next hal;have hsa:w.heap.size<=(wr.alloc (.cells #[.int .i64 ((n.log.length:Int)+1)] 2)).heap.size:=Nat.le_trans hbs2 hal.size;have hGa:=hG.rb hal;have hk1:k+1<=100000000:=by omega
    have hvn:∀ z,dI vo=some z->dI no≠some z:=fun z e q=>by have h1:=hvo.out z e;have h2:=(hX.at q).1;omega
    have hvm:∀ z,dI vo=some z->dI mo≠some z:=fun z e q=>by have h1:=hvo.out z e;have h2:=(hM.at q).1;omega
    clear hal vW hX hM hL hV hG
    go_wp2_with (first|(at_builtin;(with_reducible refine fY rfl (.tmp 54) (.tmp 56) Tryz.elIQ rfl 57 rfl w.heap.size _ no k nc (by simp[go_sem]) hXa (some ⟨wr.heap.size,0,none⟩) 1 1 (fun _=>.int .i64 ((n.log.length:Int)+1)) (by simp[go_sem]) hrow (fun _=>rfl) hk1 hsa ?_);intro no2 nc2 U1 hX1 g1 d1;have hT1:∀ z,(Value.slice no k nc).ownBlock=some z->aG _ z 2:=(fun z e=>GOwn.typed hXa e);have vU1:NdB U1 b (gH n L k) ⟨lo,lc,vo,vc,no,nc,mo,mc⟩:=VHas.gr vW1 g1 hT1 (by decide))|((with_reducible refine cG rfl 25 (.tmp 59) (.tmp 57) rfl rfl (b) 8 (.slice no2 (k+1) nc2) (by simp[go_sem]) (by simp[go_sem]) (rC n L k) (⟨lo,lc,vo,vc,no2,nc2,mo,mc⟩) vU1 (by omega) (by kernel_rfl) (by kernel_rfl) (dT (by kernel_rfl)) (by simp[gH,rC]) ?_);intro U2 vU2 g2;clear f0 f1 f2 f3 f4 f5 f6 f7 f8 f9;have hn1:=nN d1 hMa hne;have hX2:=OwI.gr (OwI.one hX1) g2 (bA vU1) (by decide);have hM2:=(hMa.apartO g1 (fun z e=>hne z (by rw[<-bK no k nc];exact e))).gr g2 (bA vU1) (by decide);have hL2:=(hLa.gr g1 hT1 (by decide)).gr g2 (bA vU1) (by decide);have hV2:=(hVa.apartO g1 (fun z e q=>hvn z q (by rw[<-bK no k nc];exact e))).gr g2 (bA vU1) (by decide);have hG2:=(hGa.gr g1 (fun z e=>.inr (.inr (GOwn.at hXa e).1))).gr g2 (fun z e=>.inl (oI e).symm);have hal2:=ra U2 (.cells #[.int .i64 0] 2);have hrow2:=pJ U2 0;have vU2b:NdB (U2.alloc (.cells #[.int .i64 0] 2)) b (rC n L k) ⟨lo,lc,vo,vc,no2,nc2,mo,mc⟩:=vn vU2 hal2;have hXb:=hX2.next hal2;have hMb:=OwI.rep (hM2.next hal2);have hMo:=hM2.next hal2;have hLb:=hL2.next hal2;have hVb:=hV2.next hal2;have hsb:w.heap.size<=(U2.alloc (.cells #[.int .i64 0] 2)).heap.size:=Nat.le_trans hG2.size hal2.size;have hGb:=hG2.rb hal2;obtain⟨f0,f1,f2,f3,f4,f5,f6,f7,f8,f9⟩:=VHas.c10 vU2;simp[lf,rC]at f0 f1 f2 f3 f4 f5 f6 f7 f8 f9)|(at_builtin;(with_reducible refine fY rfl (.tmp 64) (.tmp 65) Tryz.elIQ rfl 66 rfl w.heap.size _ mo k mc (by simp[go_sem]) hMb (some ⟨U2.heap.size,0,none⟩) 1 1 (fun _=>.int .i64 0) (by simp[go_sem]) hrow2 (fun _=>rfl) hk1 hsb ?_);intro mo2 mc2 U3 hM3 g3 d3;have hT3:∀ z,(Value.slice mo k mc).ownBlock=some z->aG _ z 2:=(fun z e=>GOwn.typed hMb e);have vU3:NdB U3 b (rC n L k) ⟨lo,lc,vo,vc,no2,nc2,mo,mc⟩:=VHas.gr vU2b g3 hT3 (by decide))|((with_reducible refine cG rfl 25 (.tmp 68) (.tmp 66) rfl rfl (b) 9 (.slice mo2 (k+1) mc2) (by simp[go_sem]) (by simp[go_sem]) (gH n L (k+1)) (⟨lo,lc,vo,vc,no2,nc2,mo2,mc2⟩) vU3 (by omega) (by kernel_rfl) (by kernel_rfl) (dT (by kernel_rfl)) (by simp[gH,rC]) ?_);intro U4 vU4 g4;have hnf:∀ z,dI no2=some z->dI mo2≠some z:=pK (nN d3 hXb (pK hn1));have hMf:=OwI.gr (OwI.one hM3) g4 (bA vU3) (by decide);have hXf:=(hXb.apartO g3 (fun z e q=>hn1 z q (by rw[<-bK mo k mc];exact e))).gr g4 (bA vU3) (by decide);have hLf:=(hLb.gr g3 hT3 (by decide)).gr g4 (bA vU3) (by decide);have hVf:=(hVb.apartO g3 (fun z e q=>hvm z q (by rw[<-bK mo k mc];exact e))).gr g4 (bA vU3) (by decide);have hGf:=(hGb.gr g3 (fun z e=>.inr (.inr (GOwn.at hMb e).1))).gr g4 (fun z e=>.inl (oI e).symm);clear f0 f1 f2 f3 f4 f5 f6 f7 f8 f9)|fail)
    go_roundw
    case rel=>exact⟨k+1,no2,mo2,nc2,mc2,by omega,by go_num,vU4,hXf,hMf,hnf,hLf,hVf,hGf⟩
    case measure=>first|(simp[intOf];omega)|(simp[intOf];done)
   obtain rfl:k=P:=by omega
   have hge:¬ (k:Int)<n.peers:=by have:=hP.out;omega
   go_wp2_with fail
   clear f0 f1 f2 f3 f4 f5 f6 f7 f8 f9 hge;have hd:RB wr wr.drew:=(Below.refl _ _).drew;have hXd:=hX.next hd;have hMd:=hM.next hd;have hLd:=hL.next hd;have hVd:=hV.next hd;have hGd:=hG.rb hd;have hvn:∀ z,dI vo=some z->dI no≠some z:=fun z e q=>by have h1:=hvo.out z e;have h2:=(hX.at q).1;omega
   have hvm:∀ z,dI vo=some z->dI mo≠some z:=fun z e q=>by have h1:=hvo.out z e;have h2:=(hM.at q).1;omega
   have hi2:n.id<(k:Int):=by have:=hP.out;omega
   obtain⟨g,eg,hgw,hvg⟩:=hMd.vh (by simp;omega);subst eg;have vD:NdB wr.drew b (gH n L k) ⟨lo,lc,vo,vc,no,nc,some ⟨g,0,none⟩,mc⟩:=vn vW hd
   refine bW (by kernel_rfl) (by kernel_rfl) (by kernel_rfl) RB rr rt
    [isV (.pointer (some ⟨b,0,none⟩)),isV (.pointer (some ⟨b,0,none⟩)),isV (.pointer (some ⟨b,9,none⟩)),isV (.slice (some ⟨g,0,none⟩) k mc),isV (.pointer (some ⟨b,0,none⟩)),isV (.pointer (some ⟨b,0,none⟩)),isV (.pointer (some ⟨b,0,none⟩)),isV (.int .i64 n.id),isV (.pointer (some ⟨b,0,none⟩)),isV (.pointer (some ⟨b,0,none⟩)),isV (.pointer (some ⟨b,4,none⟩)),isV (.slice lo L.length lc),isV (.int .i64 (L.length:Int)),isV (.pointer (some ⟨g,n.id.toNat,none⟩))]
    ⟨iR,iR,iR,iR,iR,iR,iR,iR,iR,iR,iR,iR,iR,iR,trivial⟩ rfl ?_ _ rfl rfl rfl
    (fun v w9=>OwI w9 w.heap.size (some ⟨g,0,none⟩) mc ((List.replicate k 0).set n.id.toNat ((L.length:Nat):Int))/\NdB w9 b (cF (gH n L k) n.id.toNat) ⟨lo,lc,vo,vc,no,nc,some ⟨g,0,none⟩,mc⟩/\OwI w9 w.heap.size no nc (List.replicate k ((n.log.length:Int)+1))/\OwE w9 base lo lc L/\OwI w9 base vo vc n.votes/\G2 b r w w9) ?_ ?_
   ·simp only[List.size_toArray,List.length_cons,List.length_nil,Nat.reduceAdd,Nat.reduceSub,List.take_succ_cons,List.take_zero]
    refine⟨?_,?_,?_,?_,?_,?_,?_,?_,?_,?_,?_,?_,?_,?_,trivial⟩
    ·exact ow 0
    ·exact o1 0 69
    ·exact o1 1 70
    ·exact oq rfl fun ev w9 v hR E pr=>by
      have e1:=E.eq pr 2 71;have cc:=(vD.next hR).cell (j:=9) (by omega);simp[lf,gH]at cc;simp[go_sem,cc,e1]
    ·exact ow 0
    ·exact o1 4 73
    ·exact o1 5 74
    ·exact oq rfl fun ev w9 v hR E pr=>by
      have e1:=E.eq pr 6 75;have cc:=(vD.next hR).cell (j:=0) (by omega);simp[lf,gH]at cc;simp[go_sem,cc,e1]
    ·exact ow 0
    ·exact o1 8 77
    ·exact o1 9 78
    ·exact oq rfl fun ev w9 v hR E pr=>by
      have e1:=E.eq pr 10 79;have cc:=(vD.next hR).cell (j:=4) (by omega);simp[lf,gH]at cc;simp[go_sem,cc,e1]
    ·exact o1 11 80
    ·exact oq rfl fun ev w9 v hR E pr=>by
      have e1:=E.eq pr 3 72;have e2:=E.eq pr 7 76;simp[go_sem,hi.1,hi2,e1,e2]
   ·intro ev w9 v hR E hp9
    obtain⟨_,_,_,_,_,_,_,_,_,_,_,_,p12,p13,_⟩:=hp9;have E1:=E.at_ 13 82 rfl (by kernel_rfl) (nb (by kernel_rfl));have E2:=E.at_ 12 81 rfl (by kernel_rfl) (nb (by kernel_rfl));rw[p13]at E1;rw[p12]at E2;have hv9:=hvg.next hR;have g9:=aC w9 g n.id.toNat (.int .i64 ((L.length:Nat):Int));have hT9:∀ z,some g=some z->aG w9 z 2:=fun z e=>by cases e;exact hv9.typed
    exact⟨_,cI rfl E1 E2 hv9 (by simp;omega) (by kernel_rfl) rfl (dT rfl),OwI.set (hMd.next hR) n.id.toNat (by simp;omega) _,(VHas.gr (vn vD hR) g9 hT9 (by decide)).congr (fun j hj=>by rw[rH]),(hXd.next hR).apartO g9 (fun z e q=>hne z q e),(hLd.next hR).gr g9 hT9 (by decide),(hVd.next hR).apartO g9 (fun z e q=>hvm z q e),(hGd.rb hR).gr g9 (fun z e=>.inr (.inr (by have:=oI e;omega)))⟩
   ·rintro v9 w9 ⟨hM9,vN,hX9,hL9,hV9,hG9⟩
    simp only[List.size_toArray,List.length_cons,List.length_nil,Nat.reduceAdd,Nat.reduceSub,List.take_succ_cons,List.take_zero,bF,Act.put,sY,sZ,ss]
    have HN:Hid (G5 (cF (gH n L k) n.id.toNat)=eJ n):=by
     show _ = _
     simp only[eJ];rw[hA.out];rfl
    have hON:NdO w9 base (cF (gH n L k) n.id.toNat) ⟨lo,lc,vo,vc,no,nc,some ⟨g,0,none⟩,mc⟩:=⟨hL9,hV9,hX9.from hbs,hM9.from hbs,hvn,hvm,hne⟩
    have hzN:NdZ (cF (gH n L k) n.id.toNat) ⟨lo,lc,vo,vc,no,nc,some ⟨g,0,none⟩,mc⟩:=⟨hLz,hzv,by simp[cF,gH];omega,by simp[cF,gH];omega,GOwn.cap hL9,GOwn.cap hV9,by simpa[cF,gH] using GOwn.cap hX9,by simpa[cF,gH] using GOwn.cap hM9,hLt⟩
    have hmlN:((cF (gH n L k) n.id.toNat).mat.length:Int)=(cF (gH n L k) n.id.toNat).peers:=by simp[cF,gH];have:=hP.out;omega
    have hx3:(eJ n).role=3->((eJ n).next.length:Int)=(eJ n).peers/\∀ i,i<(eJ n).next.length->1<=aT (eJ n).next i/\aT (eJ n).next i<=(eJ n).log.length+1:=fun _=>by
     rw[<-HN.out];simp only[G5,cF,gH,List.length_replicate];refine⟨by have:=hP.out;omega,fun i hi=>?_⟩;have e1:aT (List.replicate k ((n.log.length:Int)+1)) i=(n.log.length:Int)+1:=by simp[aT,hi]
     rw[e1];omega
    have h3r:(eJ n).role=3:=by rw[<-HN.out];rfl
    have hpr:1<=(eJ n).peers/\(eJ n).peers<=5:=by rw[<-HN.out];exact hp
    have hcN:0<=(cF (gH n L k) n.id.toNat).commit:=hc;have hpN:1<=(cF (gH n L k) n.id.toNat).peers/\(cF (gH n L k) n.id.toNat).peers<=5:=hp;have hzM:NdZ (eJ n) ⟨lo,lc,vo,vc,no,nc,some ⟨g,0,none⟩,mc⟩:=by rw[<-HN.out];exact⟨hzN.l,hzN.v,hzN.x,hzN.m,hzN.lc,hzN.vc,hzN.xc,hzN.mc,hzN.tx⟩
    have hOf:∀ W,RB w9 W\/w9.grownBy W (some b)->NdO W base (eJ n) ⟨lo,lc,vo,vc,no,nc,some ⟨g,0,none⟩,mc⟩:=fun W h=>by
     rw[<-HN.out];rcases h with h|h
     ·exact⟨(hON.next h).l,(hON.next h).v,(hON.next h).x,(hON.next h).m,hvn,hvm,hne⟩
     ·have h2:=hON.gr h (fun z e=>by cases e;exact vN.typed) (by decide) (by decide)
      exact⟨h2.l,h2.v,h2.x,h2.m,hvn,hvm,hne⟩
    clear hM9 hX9 hL9 hV9 vW hX hM hL hV hG vD hvg hXd hMd hLd hVd hGd;have HN2:Hid (∀ W,NdB W b (G5 (cF (gH n L k) n.id.toNat)) ⟨lo,lc,vo,vc,no,nc,some ⟨g,0,none⟩,mc⟩->NdB W b (eJ n) ⟨lo,lc,vo,vc,no,nc,some ⟨g,0,none⟩,mc⟩):=fun W h=>by rw[<-HN.out];exact h
    clear HN;have hMN:=hON.M;generalize cF (gH n L k) n.id.toNat=N at hzN hmlN hcN hpN vN hON HN2 hMN ⊢
    go_wp2_with fail
    refine (gN N ⟨lo,lc,vo,vc,no,nc,some ⟨g,0,none⟩,mc⟩ hzN b hcN hpN hmlN _ vN hMN).mono ?_;rintro e w2 ⟨rfl,vC,gC⟩;have vM:=HN2.out _ vC;have hO2:=hOf w2 (.inr gC);have hG2:=hG9.gr gC (fun z e=>.inl (oI e).symm);have HL:Hid (wJ n=dU (eJ n)):=rfl;clear vC gC HN2 hOf hON hMN vN hzN hmlN hcN hpN hG9;obtain⟨M,hMe⟩:∃ M,M=eJ n:=⟨_,rfl⟩
    rw[<-hMe]at vM hO2 hx3 h3r hpr hzM HL;replace hMe:Hid (M=eJ n):=hMe;replace h3r:Hid _:=h3r;obtain⟨f0,f1,f2,f3,f4,f5,f6,f7,f8,f9⟩:=cN vM
    go_wp2_with fail
    refine (mM M ⟨lo,lc,vo,vc,no,nc,some ⟨g,0,none⟩,mc⟩ hzM hpr hx3 _ hO2.M).mono ?_;rintro e w3 ⟨v3,rfl,hv3,hb3⟩;rw[if_pos h3r.out]at hv3;rw[<-HL.out]at hv3;clear f0 f1 f2 f3 f4 f5 f6 f7 f8 f9;go_wp2;go_ret;have hMe2:=hMe.out;subst hMe2;exact⟨v3,⟨lo,lc,vo,vc,no,nc,some ⟨g,0,none⟩,mc⟩,rfl,vn vM hb3,hO2.next hb3,NetV.from hv3 hG2.size,hG2.rb hb3⟩
def t1(n:Nd):Nd:=⟨n.id,n.peers,n.term+1,n.vote,n.log,n.role,n.commit,n.votes,n.next,n.mat⟩
def t2(n:Nd):Nd:=⟨n.id,n.peers,n.term+1,n.id,n.log,n.role,n.commit,n.votes,n.next,n.mat⟩
def t3(n:Nd):Nd:=⟨n.id,n.peers,n.term+1,n.id,n.log,2,n.commit,n.votes,n.next,n.mat⟩
def iP(n:Nd):Nd:=⟨n.id,n.peers,n.term+1,n.id,n.log,2,n.commit,[n.id],n.next,n.mat⟩
def T8(n:Nd):Bool:=(n.role==3)||(n.term==100000)
def T9(n:Nd):Nd:=if bY n=true then (if T8 n=true then n else if fM n.peers 1=true then eJ (iP n) else iP n) else aU
def DA(n:Nd):List Ms:=if bY n=true then (if T8 n=true then [] else if fM n.peers 1=true then wJ (iP n) else eE n.id (fun k=>gG (iP n) (k:Int)) n.peers.toNat) else []
theorem jG(w:World)(b:Nat):NetV b [] (.slice none 0 0) w:=⟨none,0,[],rfl,rfl,NetO.nil _ _⟩
end
end Go.Proofs.YtbabakgjkloabaaGreatDoor
