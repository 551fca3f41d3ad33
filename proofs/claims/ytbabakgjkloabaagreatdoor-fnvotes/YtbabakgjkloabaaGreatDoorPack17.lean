/-
  Helpers: Sn8, Sn9, Srp, Pk, Pv, Pt.
-/
import Derived.Test.YtbabakgjkloabaaGreatDoorPack16
set_option linter.unusedVariables false
set_option linter.unusedSimpArgs false
set_option maxRecDepth 100000
set_option maxHeartbeats 16000000
namespace Go.Proofs.YtbabakgjkloabaaGreatDoor
section
open Go Go.RowKit
attribute [local go_sem ↓] Go.wp_at_zero Go.wp_at_succ
theorem OwI.cells{w:World}{base cap g:Nat}{l:List Int}(h:OwI w base (some ⟨g,0,none⟩) cap l)(hl:0<l.length):VHas w g 2 (l.length*1) (lf (cU l)):=by
 obtain⟨g',e,_,hv⟩:=h.vh hl;cases e;exact hv
def mC(n:Nd)(t:ByteArray):Nd:=if dG n=true then S4 n t else aU
def yQ(n:Nd)(t:ByteArray):Int:=if dG n=true then GC n t else -1
def GG(n:Nd)(k:Int)(w w':World)(e:Ending):Prop:=∃ s,e=.returned (.tuple #[aX n s,.int .i64 k])/\NdO w' w.heap.size n s/\RB w w'
theorem oV{l:List En}(h:fJ l=true):l.length<=200:=by
 simp only[fJ,eD,Bool.and_eq_true]at h;exact of_decide_eq_true h.1
theorem qV(n:Nd)(s:NdS)(hz:NdZ n s)(t:ByteArray)(ht:t.size<=1048576)(w:World)(hM:NdM w n s):Calls Tryz.prog 22 #[aX n s,.string t] w fun e w'=>GG (mC n t) (yQ n t) w w' e:=by
 have hb:=rt _ _ _ (ra w (.cells (aJ n s).toArray 27)) (ra _ (.cells (aJ aU aP).toArray 27));have vA:NdB _ w.heap.size n s:=(aH w n s).next (ra _ (.cells (aJ aU aP).toArray 27));have vR:=aH (w.alloc (.cells (aJ n s).toArray 27)) aU aP;rw[World.size_alloc]at vR;have HM:Hid (∀ W,RB w W->NdM W n s):=fun W h=>hM.next h
 clear hM;go_enter Tryz.func22,Tryz.ntmps22;refine aW fun K0 hK0=>?_
 go_wp2;refine hK0.out _ _ ?_;clear hK0;generalize ((w.alloc _).alloc _)=W at hb vA vR ⊢;obtain⟨c0,c1,c2,c3,c4,c5,c6,c7,c8,c9⟩:=cN vA
 go_wp2_with fail
 refine (eW n s hz _ (HM.out _ hb)).mono ?_;rintro e w1 ⟨rfl,hb1⟩;replace hb:=rt _ _ _ hb hb1;replace vA:NdB w1 w.heap.size n s:=vn vA hb1;replace vR:NdB w1 (w.heap.size+1) aU aP:=vn vR hb1;clear hb1 c0 c1 c2 c3 c4 c5 c6 c7 c8 c9;obtain⟨c0,c1,c2,c3,c4,c5,c6,c7,c8,c9⟩:=cN vA;rcases bq (dG n) with hB|hB
 rotate_left
 ·rw[hB]
  have HN:Hid (mC n t=aU):=by show _ = _;simp[mC,hB]
  have HK:Hid (yQ n t = -1):=by show _ = _;simp[yQ,hB]
  clear hB
  go_wp2_with (first|((with_reducible refine wB 27 (.tmp 4) (.tmp 12) (w.heap.size+1) (aJ (aU) (aP)) vR ?_);intro W9 hv9 hg9)|fail)
  obtain⟨q0,q1,q2,q3,q4,q5,q6,q7,q8,q9⟩:=cN hv9;exact bodyPost_ret (v:=.tuple #[aX aU aP,.int .i64 (-1)]) (by simp[results,Tryz.results22,go_sem,q0,q1,q2,q3,q4,q5,q6,q7,q8,q9]) rfl (by rw[HN.out,HK.out];exact⟨aP,rfl,lE _ _,aV hb hg9 (by omega)⟩)
 rw[hB];have hBB:=xD hB;have hpe:=dW hBB
 have hco:0<=n.commit:=by
  simp[bY]at hBB;omega
 have hlog:n.log.length<=200:=by
  simp only[bY,Bool.and_eq_true]at hBB;exact oV hBB.2.2.2.2.1.1
 have hte:0<=n.term:=by
  simp[bY]at hBB;omega
 have hrch:=fun h=>qR hBB h
 have ht0:n.role=3->n.term≠0:=fun h h2=>by simp[dG,h,h2]at hB
 have HN0:Hid (mC n t=if K3 n t=true then gU (iO n t) n.id.toNat else n):=by show _ = _;simp[mC,S4,hB,hBB]
 have HK0:Hid (yQ n t=if K3 n t=true then (n.log.length:Int)+1 else -1):=by show _ = _;simp[yQ,GC,hB,hBB]
 clear hB hBB
 go_wp2_with fail
 clear c0 c1 c2 c3 c4 c5 c6 c7 c8 c9;refine (jA n s hz _ (HM.out _ hb)).mono ?_;rintro e w2 ⟨s2,rfl,hO,hb2⟩;have hbase:w1.heap.size<=w2.heap.size:=hb2.size;have hw1s:w.heap.size+1<w1.heap.size:=vR.lt;replace hb:=rt _ _ _ hb hb2;replace vA:NdB w2 w.heap.size n s:=vn vA hb2;replace vR:NdB w2 (w.heap.size+1) aU aP:=vn vR hb2;clear hb2;have hal:=ra w2 (.cells (aJ aU aP).toArray 27);have vO:=aH w2 aU aP;replace hO:=hO.next hal;replace hb:=rt _ _ _ hb hal;replace vA:NdB _ w.heap.size n s:=vn vA hal;replace vR:NdB _ (w.heap.size+1) aU aP:=vn vR hal;clear hal
 go_wp2_with (first|((with_reducible refine wB 27 (.tmp 6) (.tmp 14) (w2.heap.size) (aJ (n) (s2)) vO ?_);intro Wo vO0 go1;have vO1:NdB Wo w2.heap.size n s2:=vO0;clear vO0)|fail)
 have hO1:=hO.gr go1 (bA vO) (by decide) (by decide);have hb1:=aV hb go1 (by omega);have vA1:NdB Wo w.heap.size n s:=VHas.grown vA go1 (fun e=>by have:=oI e;omega);have vR1:NdB Wo (w.heap.size+1) aU aP:=VHas.grown vR go1 (fun e=>by have:=oI e;omega);clear hO hb vA vR vO go1;refine (pE t ht _).mono ?_;rintro e w3 ⟨xo,xc,rfl,_,hb3⟩;replace hb:=rt _ _ _ hb1 hb3;replace vA:NdB w3 w.heap.size n s:=vn vA1 hb3;replace vR:NdB w3 (w.heap.size+1) aU aP:=vn vR1 hb3;replace vO:NdB w3 w2.heap.size n s2:=vn vO1 hb3;replace hO:=hO1.next hb3;clear hb1 vA1 vR1 vO1 hO1 hb3;generalize hrr:cW (rJ t.data.toList)=r;have hpr:FM t=r.isSome:=by unfold FM;rw[hrr]
 clear hrr;have hal:=ra w3 (.cells #[.int .i64 0,.slice none 0 0,.int .i64 0,.int .i64 0] 78);have vC:VHas (w3.alloc (.cells #[.int .i64 0,.slice none 0 0,.int .i64 0,.int .i64 0] 78)) w3.heap.size 78 4 (lf [.int .i64 0,.slice none 0 0,.int .i64 0,.int .i64 0]):=bH w3 [.int .i64 0,.slice none 0 0,.int .i64 0,.int .i64 0] 78;replace hb:=rt _ _ _ hb hal;replace vA:NdB _ w.heap.size n s:=vn vA hal;replace vR:NdB _ (w.heap.size+1) aU aP:=vn vR hal;replace vO:NdB _ w2.heap.size n s2:=vn vO hal;replace hO:=hO.next hal;clear hal;have hs3:w2.heap.size<w3.heap.size:=by have h:=vO.lt;rw[World.size_alloc]at h;have h2:=jK vO.typed vC.typed (by decide);omega
 have hw13:w.heap.size+1<w3.heap.size:=by omega
 by_cases hr:n.role=3
 rotate_left
 ·have hp:K3 n t=false:=by simp[K3,hr]
  have HN:Hid (mC n t=n):=by show _ = _;rw[HN0.out,hp];rfl
  have HK:Hid (yQ n t = -1):=by show _ = _;rw[HK0.out,hp];rfl
  have hr':(n.role != 3)=true:=by simp[hr]
  clear hp hr hrch ht0 hpr
  go_wp2_with (first|((with_reducible refine wB 78 (.tmp 7) (.tmp 18) w3.heap.size [.int .i64 (P5 r),.slice xo ((oD r).length / 3) xc,.int .i64 (qA r 0),.int .i64 (qA r 1)] vC ?_);intro W4 vC4 g4;have vA4:NdB W4 w.heap.size n s:=VHas.grown vA g4 (fun e=>by have:=oI e;omega);have vR4:NdB W4 (w.heap.size+1) aU aP:=VHas.grown vR g4 (fun e=>by have:=oI e;omega);have vO4:NdB W4 w2.heap.size n s2:=VHas.grown vO g4 (fun e=>by have:=oI e;omega);obtain⟨c0,c1,c2,c3,c4,c5,c6,c7,c8,c9⟩:=cN vA4;obtain⟨f0,f1,f2,f3,f4,f5,f6,f7,f8,f9⟩:=cN vO4)|((with_reducible refine wB 27 (.tmp 4) (.tmp 33) (w.heap.size+1) (aJ (n) (s2)) vR4 ?_);intro W9 hv9 hg9)|fail)
  obtain⟨q0,q1,q2,q3,q4,q5,q6,q7,q8,q9⟩:=cN hv9;exact bodyPost_ret (v:=.tuple #[aX n s2,.int .i64 (-1)]) (by simp[results,Tryz.results22,go_sem,q0,q1,q2,q3,q4,q5,q6,q7,q8,q9]) rfl (by rw[HN.out,HK.out];exact⟨s2,rfl,((hO.gr g4 (fun z e=>by cases e;exact vC.typed) (by decide) (by decide)).gr hg9 (bA vR4) (by decide) (by decide)).from (by omega),aV (aV hb g4 (by omega)) hg9 (by omega)⟩)
 have hr':(n.role != 3)=false:=by simp[hr]
 obtain⟨hnl,hml,_⟩:=hrch hr;have hta:=ht0 hr;rcases bq r.isSome with his|his
 rotate_left
 ·have hp:K3 n t=false:=by simp[K3,hpr,his]
  have HN:Hid (mC n t=n):=by show _ = _;rw[HN0.out,hp];rfl
  have HK:Hid (yQ n t = -1):=by show _ = _;rw[HK0.out,hp];rfl
  rw[his];clear hp hr hrch ht0 hpr his
  go_wp2_with (first|((with_reducible refine wB 78 (.tmp 7) (.tmp 18) w3.heap.size [.int .i64 (P5 r),.slice xo ((oD r).length / 3) xc,.int .i64 (qA r 0),.int .i64 (qA r 1)] vC ?_);intro W4 vC4 g4;have vA4:NdB W4 w.heap.size n s:=VHas.grown vA g4 (fun e=>by have:=oI e;omega);have vR4:NdB W4 (w.heap.size+1) aU aP:=VHas.grown vR g4 (fun e=>by have:=oI e;omega);have vO4:NdB W4 w2.heap.size n s2:=VHas.grown vO g4 (fun e=>by have:=oI e;omega);obtain⟨c0,c1,c2,c3,c4,c5,c6,c7,c8,c9⟩:=cN vA4;obtain⟨f0,f1,f2,f3,f4,f5,f6,f7,f8,f9⟩:=cN vO4)|((with_reducible refine wB 27 (.tmp 4) (.tmp 33) (w.heap.size+1) (aJ (n) (s2)) vR4 ?_);intro W9 hv9 hg9)|fail)
  obtain⟨q0,q1,q2,q3,q4,q5,q6,q7,q8,q9⟩:=cN hv9;exact bodyPost_ret (v:=.tuple #[aX n s2,.int .i64 (-1)]) (by simp[results,Tryz.results22,go_sem,q0,q1,q2,q3,q4,q5,q6,q7,q8,q9]) rfl (by rw[HN.out,HK.out];exact⟨s2,rfl,((hO.gr g4 (fun z e=>by cases e;exact vC.typed) (by decide) (by decide)).gr hg9 (bA vR4) (by decide) (by decide)).from (by omega),aV (aV hb g4 (by omega)) hg9 (by omega)⟩)
 rw[his]
 by_cases hl:n.log.length=200
 ·have hrm:gP n=false:=by simp[gP,hl]
  have hp:K3 n t=false:=by simp[K3,hrm]
  have HN:Hid (mC n t=n):=by show _ = _;rw[HN0.out,hp];rfl
  have HK:Hid (yQ n t = -1):=by show _ = _;rw[HK0.out,hp];rfl
  have hl':((n.log.length:Int)==200)=true:=by rw[beq_iff_eq];omega
  clear hp hr hrch ht0 hpr his hl hrm
  go_wp2_with (first|((with_reducible refine wB 78 (.tmp 7) (.tmp 18) w3.heap.size [.int .i64 (P5 r),.slice xo ((oD r).length / 3) xc,.int .i64 (qA r 0),.int .i64 (qA r 1)] vC ?_);intro W4 vC4 g4;have vA4:NdB W4 w.heap.size n s:=VHas.grown vA g4 (fun e=>by have:=oI e;omega);have vR4:NdB W4 (w.heap.size+1) aU aP:=VHas.grown vR g4 (fun e=>by have:=oI e;omega);have vO4:NdB W4 w2.heap.size n s2:=VHas.grown vO g4 (fun e=>by have:=oI e;omega);obtain⟨c0,c1,c2,c3,c4,c5,c6,c7,c8,c9⟩:=cN vA4;obtain⟨f0,f1,f2,f3,f4,f5,f6,f7,f8,f9⟩:=cN vO4)|((with_reducible refine wB 27 (.tmp 4) (.tmp 33) (w.heap.size+1) (aJ (n) (s2)) vR4 ?_);intro W9 hv9 hg9)|fail)
  obtain⟨q0,q1,q2,q3,q4,q5,q6,q7,q8,q9⟩:=cN hv9;exact bodyPost_ret (v:=.tuple #[aX n s2,.int .i64 (-1)]) (by simp[results,Tryz.results22,go_sem,q0,q1,q2,q3,q4,q5,q6,q7,q8,q9]) rfl (by rw[HN.out,HK.out];exact⟨s2,rfl,((hO.gr g4 (fun z e=>by cases e;exact vC.typed) (by decide) (by decide)).gr hg9 (bA vR4) (by decide) (by decide)).from (by omega),aV (aV hb g4 (by omega)) hg9 (by omega)⟩)
 have hl':((n.log.length:Int)==200)=false:=by rw[beq_eq_false_iff_ne];omega
 have hrm:gP n=true:=by
  have h1:decide (n.log.length<200)=true:=decide_eq_true (by omega);have h2:decide (0<n.term)=true:=decide_eq_true (by omega);simp only[gP,h1,h2,Bool.and_true]
 have hp:K3 n t=true:=by simp[K3,hpr,his,hr,hrm]
 have HN:Hid (mC n t=gU (iO n t) n.id.toNat):=by show _ = _;rw[HN0.out,hp];rfl
 have HK:Hid (yQ n t=(n.log.length:Int)+1):=by show _ = _;rw[HK0.out,hp];rfl
 have hl199:n.log.length<200:=by omega
 clear hp hrm hl his hpr hr hrch ht0 HN0 HK0;obtain⟨lo2,lc2,vo2,vc2,no2,nc2,mo2,mc2⟩:=s2;obtain⟨g,eg,hgw,_⟩:=hO.m.vh (by have:=hpe;omega);simp only at eg;subst eg;have hi1:=hpe.2.2.1;have hi2:n.id<(n.mat.length:Int):=by omega
 have hiN:n.id.toNat<n.mat.length:=by omega
 have hmat0:0<n.mat.length:=by omega
 have hkm:n.id.toNat<n.mat.length*1:=by omega
 have hwl1:IntKind.i64.wrap ((n.log.length:Int)+1)=(n.log.length:Int)+1:=wi
 go_wp2_with (first|((with_reducible refine wB 78 (.tmp 7) (.tmp 18) w3.heap.size [.int .i64 (P5 r),.slice xo ((oD r).length / 3) xc,.int .i64 (qA r 0),.int .i64 (qA r 1)] vC ?_);intro W4 vC4 g4;have vA4:NdB W4 w.heap.size n s:=VHas.grown vA g4 (fun e=>by have:=oI e;omega);have vR4:NdB W4 (w.heap.size+1) aU aP:=VHas.grown vR g4 (fun e=>by have:=oI e;omega);have vO4:NdB W4 w2.heap.size n ⟨lo2,lc2,vo2,vc2,no2,nc2,some ⟨g,0,none⟩,mc2⟩:=VHas.grown vO g4 (fun e=>by have:=oI e;omega);obtain⟨c0,c1,c2,c3,c4,c5,c6,c7,c8,c9⟩:=cN vA4;obtain⟨f0,f1,f2,f3,f4,f5,f6,f7,f8,f9⟩:=cN vO4;have hal:=ra W4 (.cells #[.int .i64 n.term,.string t] 47);have hgr:GRow (W4.alloc (.cells #[.int .i64 n.term,.string t] 47)) (some ⟨W4.heap.size,0,none⟩) (1*2) (lf [.int .i64 n.term,.string t]):=nJ (bH W4 [.int .i64 n.term,.string t] 47);have hO4:=hO.gr g4 (fun z e=>by cases e;exact vC.typed) (by decide) (by decide);have hO5:=hO4.next hal;have vA5:NdB (W4.alloc (.cells #[.int .i64 n.term,.string t] 47)) w.heap.size n s:=vn vA4 hal;have vR5:NdB (W4.alloc (.cells #[.int .i64 n.term,.string t] 47)) (w.heap.size+1) aU aP:=vn vR4 hal;have vO5:NdB (W4.alloc (.cells #[.int .i64 n.term,.string t] 47)) w2.heap.size n ⟨lo2,lc2,vo2,vc2,no2,nc2,some ⟨g,0,none⟩,mc2⟩:=vn vO4 hal;have hOl5:GOwn (W4.alloc (.cells #[.int .i64 n.term,.string t] 47)) w1.heap.size 47 2 lo2 n.log.length lc2 (lf (dZ n.log)):=hO5.l;have hb5:=rt _ _ _ (aV hb g4 (by omega)) hal;have hbs5:w1.heap.size<=(W4.alloc (.cells #[.int .i64 n.term,.string t] 47)).heap.size:=Nat.le_trans hbase (Nat.le_of_lt vO5.lt);have hon:∀ j,j<1*2->(lf [Value.int .i64 n.term,.string t] j).oneCell'=true:=(fun j hj=>by have hj9:j=0\/j=1:=(by omega);rcases hj9 with rfl|rfl<;>rfl))|(at_builtin;(with_reducible refine gF rfl (.tmp 35) (.tmp 40) Tryz.elEnQ rfl 41 rfl w1.heap.size _ lo2 n.log.length lc2 (by simp[go_sem]) hOl5 (some ⟨W4.heap.size,0,none⟩) 1 1 (lf [.int .i64 n.term,.string t]) (by simp[go_sem]) hgr hon (by omega) hbs5 ?_);intro ao5 cap5 w6 hown g6;have hT6:∀ x,(Value.slice lo2 n.log.length lc2).ownBlock=some x->aG _ x 47:=(fun x e=>GOwn.typed hOl5 e);have vO6:NdB w6 w2.heap.size n ⟨lo2,lc2,vo2,vc2,no2,nc2,some ⟨g,0,none⟩,mc2⟩:=VHas.gr vO5 g6 hT6 (by decide))|((with_reducible refine cG rfl 24 (.tmp 42) (.tmp 41) rfl rfl (w2.heap.size) 4 (.slice ao5 (n.log.length+1) cap5) (by simp[go_sem]) (by simp[go_sem]) (iO n t) (⟨ao5,cap5,vo2,vc2,no2,nc2,some ⟨g,0,none⟩,mc2⟩) vO6 (by omega) (by kernel_rfl) (by kernel_rfl) (dT (by kernel_rfl)) (by simp[iO]) ?_);intro W7 vO7 g7;clear f0 f1 f2 f3 f4 f5 f6 f7 f8 f9 c0 c1 c2 c3 c4 c5 c6 c7 c8 c9;have vA7:NdB W7 w.heap.size n s:=VHas.grown (VHas.gr vA5 g6 hT6 (by decide)) g7 (fun e=>by have:=oI e;omega);obtain⟨c0,c1,c2,c3,c4,c5,c6,c7,c8,c9⟩:=cN vA7;obtain⟨f0,f1,f2,f3,f4,f5,f6,f7,f8,f9⟩:=VHas.c10 vO7;simp[lf,iO]at f0 f1 f2 f3 f4 f5 f6 f7 f8 f9;have hO6:=OwE.more (x:=⟨n.term,t⟩) hown;have hl7:=hO6.gr g7 (bA vO6) (by decide);have hv7:=(hO5.v.gr g6 hT6 (by decide)).gr g7 (bA vO6) (by decide);have hx7:=(hO5.x.gr g6 hT6 (by decide)).gr g7 (bA vO6) (by decide);have hm7:=(hO5.m.gr g6 hT6 (by decide)).gr g7 (bA vO6) (by decide);have hO7:NdO W7 w1.heap.size (iO n t) ⟨ao5,cap5,vo2,vc2,no2,nc2,some ⟨g,0,none⟩,mc2⟩:=⟨hl7,hv7,hx7,hm7,hO5.vx,hO5.vm,hO5.xm⟩;have hvm:=OwI.cells hm7 hmat0;have hb7:=aV (jO hb5 g6 (fun x e=>Nat.le_trans (by omega) (GOwn.at hOl5 e).1)) g7 (by omega);have vR7:NdB W7 (w.heap.size+1) aU aP:=VHas.grown (VHas.gr vR5 g6 hT6 (by decide)) g7 (fun e=>by have:=oI e;omega))|((with_reducible refine kC rfl 2 (.tmp 50) (.tmp 49) rfl rfl g n.id.toNat (.int .i64 ((n.log.length:Int)+1)) (by simp[go_sem]) (by simp[go_sem]) hvm hkm (by kernel_rfl) rfl (dT rfl) ?_);intro W8 hW8)|fail)
 clear f0 f1 f2 f3 f4 f5 f6 f7 f8 f9 c0 c1 c2 c3 c4 c5 c6 c7 c8 c9;generalize hW8:W7.setCell ⟨g,n.id.toNat,none⟩ (.int .i64 ((n.log.length:Int)+1))=W8;have hset:=hO7.setM n.id.toNat hiN ((n.log.length:Int)+1);rw[hW8]at hset;have eM:eB (iO n t) n.id.toNat ((n.log.length:Int)+1)=(cF (iO n t) n.id.toNat):=by simp[eB,cF,iO]
 rw[eM]at hset;have g8:W7.grownBy W8 (some g):=by rw[<-hW8];exact aC _ _ _ _
 have hT8:∀ z,some g=some z->aG W7 z 2:=fun z e=>by cases e;exact hvm.typed
 have vO8:NdB W8 w2.heap.size (cF (iO n t) n.id.toNat) ⟨ao5,cap5,vo2,vc2,no2,nc2,some ⟨g,0,none⟩,mc2⟩:=(VHas.gr vO7 g8 hT8 (by decide)).congr (fun j hj=>by rw[rH]);have vR8:NdB W8 (w.heap.size+1) aU aP:=VHas.gr vR7 g8 hT8 (by decide);have hO8:=hset.1;have hb8:=aV hb7 g8 (by have:=(hO7.m.at (b:=g) rfl).1;omega);have hlz:(n.log++[(⟨n.term,t⟩:En)]).length<=1048576:=by simp;omega
 have htx:∀ k,k<(n.log++[(⟨n.term,t⟩:En)]).length->(cS (n.log++[(⟨n.term,t⟩:En)]) k).size<=1048576:=fun k hk=>by
  by_cases q:k<n.log.length
  ·have e9:cS (n.log++[(⟨n.term,t⟩:En)]) k=cS n.log k:=by simp[cS,List.getD_eq_getElem?_getD,List.getElem?_append_left q]
   rw[e9];exact hz.tx k q
  ·obtain rfl:k=n.log.length:=by simp at hk;omega
   simp[cS];exact ht
 have hK8:=hO8.K;have hzN:NdZ (cF (iO n t) n.id.toNat) ⟨ao5,cap5,vo2,vc2,no2,nc2,some ⟨g,0,none⟩,mc2⟩:=⟨hlz,hz.v,hz.x,by simp[cF,iO];exact hz.m,hK8.l,hK8.v,hK8.x,hK8.m,htx⟩
 have hmlN:(((cF (iO n t) n.id.toNat).mat.length:Nat):Int)=(cF (iO n t) n.id.toNat).peers:=by simp[cF,iO];omega
 refine (gN (cF (iO n t) n.id.toNat) ⟨ao5,cap5,vo2,vc2,no2,nc2,some ⟨g,0,none⟩,mc2⟩ hzN w2.heap.size hco ⟨hpe.1,hpe.2.1⟩ hmlN _ vO8 hO8.M).mono ?_;rintro e w9 ⟨rfl,vC,gC⟩;have eA:G5 (cF (iO n t) n.id.toNat)=gU (iO n t) n.id.toNat:=rfl;rw[eA]at vC
 have hO9:NdO w9 w1.heap.size (gU (iO n t) n.id.toNat) ⟨ao5,cap5,vo2,vc2,no2,nc2,some ⟨g,0,none⟩,mc2⟩:=by
  have h2:=hO8.gr gC (bA vO8) (by decide) (by decide);exact⟨h2.l,h2.v,h2.x,h2.m,h2.vx,h2.vm,h2.xm⟩
 have vR9:NdB w9 (w.heap.size+1) aU aP:=VHas.grown vR8 gC (fun e=>by have:=oI e;omega);have hb9:=aV hb8 gC (by omega);have hlm:Hid ((((gU (iO n t) n.id.toNat).log.length:Nat):Int)=(n.log.length:Int)+1):=by show _ = _;simp[gU,iO]
 have hs9:=hb9.size;clear eA eM hset g8 hT8 vO8 vR8 hO8 hb8 hlz htx hK8 hzN hmlN gC hvm hO7 vO7 vR7 hb7 vA7 hl7 hv7 hx7 hm7 hO6 g7 hown g6 hT6 vO6 hW8;generalize gU (iO n t) n.id.toNat=M at HN vC hO9 hlm
 go_wp2_with fail
 have hd:RB w9 w9.drew:=(Below.refl _ _).drew;replace hb9:=rt _ _ _ hb9 hd;replace vC:NdB w9.drew w2.heap.size M ⟨ao5,cap5,vo2,vc2,no2,nc2,some ⟨g,0,none⟩,mc2⟩:=vn vC hd;replace vR9:NdB w9.drew (w.heap.size+1) aU aP:=vn vR9 hd;replace hO9:=hO9.next hd;clear hd
 refine cY (by kernel_rfl) (by kernel_rfl) 4 [0] [1,2,3,5] (by kernel_rfl) (by kernel_rfl)
  (fun u v=>u.grownBy v (some (w.heap.size+1))/\aG u (w.heap.size+1) 27)
  (fun W5=>NdB W5 (w.heap.size+1) M ⟨ao5,cap5,vo2,vc2,no2,nc2,some ⟨g,0,none⟩,mc2⟩/\NdO W5 w1.heap.size M ⟨ao5,cap5,vo2,vc2,no2,nc2,some ⟨g,0,none⟩,mc2⟩/\RB w W5/\NdB W5 w2.heap.size M ⟨ao5,cap5,vo2,vc2,no2,nc2,some ⟨g,0,none⟩,mc2⟩)
  (fun a b h hR=>⟨vn h.1 hR,h.2.1.next hR,rt _ _ _ h.2.2.1 hR,vn h.2.2.2 hR⟩)
  [isV (aX M ⟨ao5,cap5,vo2,vc2,no2,nc2,some ⟨g,0,none⟩,mc2⟩),isV (.pointer (some ⟨w2.heap.size,4,none⟩)),isV (.slice ao5 M.log.length cap5),isV (.int .i64 (M.log.length:Int)),fun _ _=>True,isV (.int .i64 (M.log.length:Int))]
  ⟨iR,iR,iR,iR,fun _ _ _ h _=>h,iR,trivial⟩ ?_ ?_ (kR ?_) _ rfl rfl ?_ ?_
 ·intro i hi v a b h hx
  simp only[List.mem_cons,List.not_mem_nil,or_false]at hi;rcases hi with rfl|rfl|rfl|rfl<;>exact h
 ·intro i hi o ho
  simp only[List.mem_cons,List.not_mem_nil,or_false]at hi;subst hi;obtain rfl:=oI ho
  exact oq rfl fun ev w' v hR E pr=>by
   have e1:=E.was 6 _;exact bD rfl e1 (vC.next hR)
 ·refine aD rfl (aM ?_ (aM ?_ (aM ?_ (aD rfl (aM ?_ trivial)))))
  ·exact LateOk.get _ (fun _=>rfl) fun ev w5 v hR E pr=>by
    have e1:=E.was 6 _;simp[go_sem,e1]
  ·exact LateOk.get _ (fun _=>rfl) fun ev w5 v hR E pr=>by
    have e1:ev (.tmp 53)=.pointer (some ⟨w2.heap.size,4,none⟩):=E.kept pr 1 53
    have vv:NdB w5 w2.heap.size M ⟨ao5,cap5,vo2,vc2,no2,nc2,some ⟨g,0,none⟩,mc2⟩:=by
     rcases hR with hR|hR
     ·exact vn vC hR
     ·exact hR.2.2.2
    have cc:=VHas.cell vv (j:=4) (by omega);simp[lf]at cc;simp[go_sem,cc,e1]
  ·exact LateOk.get _ (fun _=>rfl) fun ev w5 v hR E pr=>by
    have e1:ev (.tmp 54)=.slice ao5 M.log.length cap5:=E.kept pr 2 54;simp[go_sem,e1]
  ·intro ev w5 v hR E pr
   exact⟨ev (.tmp 55),w5,by simp[go_sem],rr _,E.kept pr 3 55⟩
 ·intro ev w5 v hR E hp
  have E1:ev (.tmp 52)=aX M ⟨ao5,cap5,vo2,vc2,no2,nc2,some ⟨g,0,none⟩,mc2⟩:=E.get hp 0 52;have E2:ev (.tmp 4)=.pointer (some ⟨w.heap.size+1,0,none⟩):=E.was 4 _;have vR':=vn vR9 hR;have hg:w5.grownBy (setL w5 (w.heap.size+1) 0 (aJ M ⟨ao5,cap5,vo2,vc2,no2,nc2,some ⟨g,0,none⟩,mc2⟩)) (some (w.heap.size+1)):=bP _ _ 0 _;exact⟨_,bU (aJ M ⟨ao5,cap5,vo2,vc2,no2,nc2,some ⟨g,0,none⟩,mc2⟩) rfl E2 E1 vR' (by kernel_rfl) (cD (by kernel_rfl)),⟨hg,vR'.typed⟩,bE _ vR',(hO9.next hR).gr hg (bA vR') (by decide) (by decide),aV (rt _ _ _ hb9 hR) hg (by omega),VHas.grown (vn vC hR) hg (fun e=>by have:=oI e;omega)⟩
 ·intro v8 w8 hP8 hk8
  have k8:v8 5=.int .i64 (M.log.length:Int):=hk8 5 (by decide) (nb (by kernel_rfl)) (by decide);simp only[bF,Nat.zero_add,Nat.reduceAdd,Act.put,sY,sZ,ss];obtain⟨hv9,hM9,hb9,_⟩:=hP8;obtain⟨q0,q1,q2,q3,q4,q5,q6,q7,q8,q9⟩:=cN hv9;go_wp2;exact bodyPost_ret (v:=.tuple #[aX M ⟨ao5,cap5,vo2,vc2,no2,nc2,some ⟨g,0,none⟩,mc2⟩,.int .i64 (M.log.length:Int)]) (by simp[results,Tryz.results22,go_sem,q0,q1,q2,q3,q4,q5,q6,q7,q8,q9,k8]) rfl (by rw[HN.out,HK.out,<-hlm.out];exact⟨⟨ao5,cap5,vo2,vc2,no2,nc2,some ⟨g,0,none⟩,mc2⟩,rfl,hM9.from (by omega),hb9⟩)
def S5(n:Nd):Nd:=⟨n.id,n.peers,n.term,n.vote,n.log,1,0,[],[],[]⟩
def wW(n:Nd):Nd:=if dG n=true then S5 n else aU
def RsV(base:Nat)(n:Nd)(v:Value)(w:World):Prop:=∃ a c,v=aX (S5 n) ⟨a,c,none,0,none,0,none,0⟩/\OwE w base a c n.log
theorem RsV.rb{base:Nat}{n:Nd}(v:Value)(w w':World)(h:RsV base n v w)(hb:RB w w'):RsV base n v w':=by
 obtain⟨a,c,e,h⟩:=h;exact⟨a,c,e,h.next hb⟩
theorem qU(n:Nd)(s:NdS)(hz:NdZ n s)(w:World)(hM:NdM w n s):Calls Tryz.prog 19 #[aX n s] w fun e w'=>∃ s',e=.returned (aX (wW n) s')/\NdO w' w.heap.size (wW n) s'/\RB w w':=by
 have hb:=rt _ _ _ (ra w (.cells (aJ n s).toArray 27)) (ra _ (.cells (aJ aU aP).toArray 27));have vA:NdB _ w.heap.size n s:=(aH w n s).next (ra _ (.cells (aJ aU aP).toArray 27));have vR:=aH (w.alloc (.cells (aJ n s).toArray 27)) aU aP;rw[World.size_alloc]at vR;have HM:Hid (∀ W,RB w W->NdM W n s):=fun W h=>hM.next h
 clear hM;go_enter Tryz.func19,Tryz.ntmps19;refine aW fun K0 hK0=>?_
 go_wp2;refine hK0.out _ _ ?_;clear hK0;generalize ((w.alloc _).alloc _)=W at hb vA vR ⊢;obtain⟨c0,c1,c2,c3,c4,c5,c6,c7,c8,c9⟩:=cN vA
 go_wp2_with fail
 refine (eW n s hz _ (HM.out _ hb)).mono ?_;rintro e w1 ⟨rfl,hb1⟩;replace hb:=rt _ _ _ hb hb1;replace vA:NdB w1 w.heap.size n s:=vn vA hb1;replace vR:NdB w1 (w.heap.size+1) aU aP:=vn vR hb1;clear hb1 c0 c1 c2 c3 c4 c5 c6 c7 c8 c9;rcases bq (dG n) with hB|hB
 rotate_left
 ·rw[hB]
  have HN:Hid (wW n=aU):=by show _ = _;simp[wW,hB]
  clear hB
  go_wp2_with (first|((with_reducible refine wB 27 (.tmp 2) (.tmp 6) (w.heap.size+1) (aJ (aU) (aP)) vR ?_);intro W9 hv9 hg9)|fail)
  obtain⟨q0,q1,q2,q3,q4,q5,q6,q7,q8,q9⟩:=cN hv9;exact bodyPost_ret (v:=aX aU aP) (by simp[results,Tryz.results19,go_sem,q0,q1,q2,q3,q4,q5,q6,q7,q8,q9]) rfl (by rw[HN.out];exact⟨aP,rfl,lE _ _,aV hb hg9 (by omega)⟩)
 rw[hB];have HN:Hid (wW n=S5 n):=by show _ = _;simp[wW,hB]
 clear hB;obtain⟨c0,c1,c2,c3,c4,c5,c6,c7,c8,c9⟩:=cN vA
 go_wp2_with fail
 clear c0 c1 c2 c3 c4 c5 c6 c7 c8 c9;have hd:RB w1 w1.drew:=(Below.refl _ _).drew;replace hb:=rt _ _ _ hb hd;replace vA:NdB w1.drew w.heap.size n s:=vn vA hd;replace vR:NdB w1.drew (w.heap.size+1) aU aP:=vn vR hd;have hbs:=hb.size;clear hd
 refine bW (by kernel_rfl) (by kernel_rfl) (by kernel_rfl) RB rr rt
  [isV (.pointer (some ⟨w.heap.size,0,none⟩)),isV (.int .i64 n.id),isV (.pointer (some ⟨w.heap.size,1,none⟩)),isV (.int .i64 n.peers),isV (.pointer (some ⟨w.heap.size,2,none⟩)),isV (.int .i64 n.term),isV (.pointer (some ⟨w.heap.size,3,none⟩)),isV (.int .i64 n.vote),LE w.heap.size 47,isV (.pointer (some ⟨w.heap.size,4,none⟩)),isV (.slice s.lo n.log.length s.lc),OwV w.heap.size n.log,RsV w.heap.size n]
  ⟨iR,iR,iR,iR,iR,iR,iR,iR,LE.rb,iR,iR,OwV.rb,RsV.rb,trivial⟩ rfl ?_ _ rfl rfl rfl
  (fun v w9=>∃ a c,NdB w9 (w.heap.size+1) (S5 n) ⟨a,c,none,0,none,0,none,0⟩/\OwE w9 w.heap.size a c n.log/\RB w w9) ?_ ?_
 ·simp only[List.size_toArray,List.length_cons,List.length_nil,Nat.reduceAdd,Nat.reduceSub,List.take_succ_cons,List.take_zero]
  refine⟨?_,?_,?_,?_,?_,?_,?_,?_,?_,?_,?_,?_,?_,trivial⟩
  ·exact ow 1
  ·exact oc 0 7 fun _ hR=>(vA.next hR).cell (j:=0) (by omega)
  ·exact ow 1
  ·exact oc 2 9 fun _ hR=>(vA.next hR).cell (j:=1) (by omega)
  ·exact ow 1
  ·exact oc 4 11 fun _ hR=>(vA.next hR).cell (j:=2) (by omega)
  ·exact ow 1
  ·exact oc 6 13 fun _ hR=>(vA.next hR).cell (j:=3) (by omega)
  ·exact OpOk.val rfl fun ev w9 v hR E pr=>⟨_,w9.alloc (.cells #[] 47),by simp[go_sem],ra _ _,LE.new w9 _ _ (Nat.le_trans hbs hR.size)⟩
  ·exact ow 1
  ·exact oc 9 16 fun _ hR=>(vA.next hR).cell (j:=4) (by omega)
  ·refine OpOk.val rfl fun ev w9 v hR E pr=>?_
   have e2:=E.eq pr 10 17;exact E6 rfl (E.get pr 8 15) ⟨s.lo,s.lc,e2,hz.lc,(HM.out _ (rt _ _ _ hb hR)).l⟩ hz.l (Nat.le_trans hbs hR.size)
  ·refine OpOk.val rfl fun ev w9 v hR E pr=>?_
   have e1:=E.eq pr 1 8;have e2:=E.eq pr 3 10;have e3:=E.eq pr 5 12;have e4:=E.eq pr 7 14;obtain⟨a,c,e6,ho⟩:OwV w.heap.size n.log (ev (.tmp 18)) w9:=E.get pr 11 18;exact⟨aX (S5 n) ⟨a,c,none,0,none,0,none,0⟩,w9,by simp[go_sem,e1,e2,e3,e4,e6,E.con,S5],rr _,a,c,rfl,ho⟩
 ·intro ev w9 v hR E hp
  obtain⟨_,_,_,_,_,_,_,_,_,_,_,_,p12,_⟩:=hp;obtain⟨a,c,e1,ho⟩:=p12;have E1:=E.at_ 12 19 rfl (by kernel_rfl) (nb (by kernel_rfl));rw[e1]at E1;have E2:ev (.tmp 2)=.pointer (some ⟨w.heap.size+1,0,none⟩):=E.was 2 _;have vR':=vn vR hR;have hg:w9.grownBy (setL w9 (w.heap.size+1) 0 (aJ (S5 n) ⟨a,c,none,0,none,0,none,0⟩)) (some (w.heap.size+1)):=bP _ _ 0 _;exact⟨_,bU (aJ (S5 n) ⟨a,c,none,0,none,0,none,0⟩) rfl E2 E1 vR' (by kernel_rfl) (cD (by kernel_rfl)),a,c,bE _ vR',ho.gr hg (bA vR') (by decide),aV (rt _ _ _ hb hR) hg (by omega)⟩
 ·rintro v w8 ⟨a,c,hv9,ho9,hb9⟩
  simp only[List.size_toArray,List.length_cons,List.length_nil,Nat.reduceAdd,Nat.reduceSub,List.take_succ_cons,List.take_zero,bF,Act.put,sY,sZ,ss];obtain⟨q0,q1,q2,q3,q4,q5,q6,q7,q8,q9⟩:=cN hv9;go_wp2;exact bodyPost_ret (v:=aX (S5 n) ⟨a,c,none,0,none,0,none,0⟩) (by simp[results,Tryz.results19,go_sem,q0,q1,q2,q3,q4,q5,q6,q7,q8,q9]) rfl (by rw[HN.out];exact⟨⟨a,c,none,0,none,0,none,0⟩,rfl,⟨ho9,GOwn.nil _ _ _ _ _,GOwn.nil _ _ _ _ _,GOwn.nil _ _ _ _ _,fun b e=>(by cases e),fun b e=>(by cases e),fun b e=>(by cases e)⟩,hb9⟩)
def lJ(n:Nd)(t:Int):Nd:=⟨n.id,n.peers,t,-1,n.log,1,n.commit,[],[],[]⟩
def rc1(n:Nd)(m:Ms):Nd:=if n.term<m.term then lJ n m.term else n
def tS(p:Nat)(vs:List Int)(fr:Int):List Int:=((List.range p).map (fun (k:Nat)=>(k:Int))).filter (fun q=>q==fr||vs.contains q)
def mL(n:Nd)(fr:Int):Nd:=⟨n.id,n.peers,n.term,n.vote,n.log,n.role,n.commit,tS n.peers.toNat n.votes fr,n.next,n.mat⟩
def tU(n:Nd)(m:Ms):Bool:=(n.role==2)&&((m.term==n.term)&&m.yes)
def rG(n:Nd)(m:Ms):Nd:=if tU n m=true then (if fM n.peers (tS n.peers.toNat n.votes m.frm).length=true then eJ (mL n m.frm) else mL n m.frm) else n
def wZ(n:Nd)(m:Ms):List Ms:=if tU n m=true then (if fM n.peers (tS n.peers.toNat n.votes m.frm).length=true then wJ (mL n m.frm) else []) else []
def gE(n:Nd)(m:Ms):Nd:=if m.kind=1 then rK n m else if m.kind=2 then rG n m else if m.kind=3 then jY n m else jU n m m.frm.toNat
def iQ(n:Nd)(m:Ms):List Ms:=if m.kind=1 then [eI (rK n m) m.frm (tV n m)] else if m.kind=2 then wZ n m else if m.kind=3 then mB n m else []
def cK(n:Nd)(m:Ms):Nd:=if gV n m=true then gE (rc1 n m) m else n
def eT(n:Nd)(m:Ms):List Ms:=if gV n m=true then iQ (rc1 n m) m else []
def ED(base:Nat)(n:Nd)(l:List Ms)(w w':World)(e:Ending):Prop:=∃ s v,e=.returned (.tuple #[aX n s,v])/\NdO w' base n s/\NetV w.heap.size l v w'/\Ch base w w'
theorem MsB.put{W:World}{b:Nat}{m m':Ms}{eo eo':Option Addr}{ec ec':Nat}(h:MsB W b m eo ec)(k:Nat)(hk:k<9)(v:Value)(e:(bZ m eo ec).set k v=bZ m' eo' ec'):MsB (W.setCell ⟨b,k,none⟩ v) b m' eo' ec':=
 (VHas.set h k v).congr (fun j hj=>by
  rw[<-e]
  by_cases q:j=k
  ·subst q
   have:j<(bZ m eo ec).length:=hk;simp only[lf,if_true,List.getD_eq_getElem?_getD,List.getElem?_set_self this,Option.getD_some]
  ·simp only[if_neg q,lf,List.getD_eq_getElem?_getD,List.getElem?_set_ne (fun r=>q r.symm)])
theorem dM{P:Program}{ops:Array Oper}{o:Oper}{rest:List Oper}{a:Act}{W:World}{Q:Exit->Act->World->Prop}(hgd:o.guard=none)(ty:TypeId)(x y:Operand)(ho:o.op=.store ty x y)(hd:o.dst=none)(b k:Nat)(v:Value)(hx:a.eval x=.pointer (some ⟨b,k,none⟩))(hy:a.eval y=v){m:Ms}{eo:Option Addr}{ec:Nat}(m':Ms)(eo':Option Addr)(ec':Nat)(hb:MsB W b m eo ec)(hk:k<9)(hi:(P.info? ty).map (·.size)=some 1)(hvc:v.cells=#[v])(hv:v.oneCell'=true)(e:(bZ m eo ec).set k v=bZ m' eo' ec')
  (h:∀ W',MsB W' b m' eo' ec'->W.grownBy W' (some b)->wpList P ops Q rest a W'):wpList P ops Q (o :: rest) a W:=
 kC hgd ty x y ho hd b k v hx hy hb hk hi hvc hv fun W' e'=>by
  subst e';exact h _ (MsB.put hb k hk v e) (aC W b k v)
theorem wM{P:Program}{ops:Array Oper}{o:Oper}{rest:List Oper}{a:Act}{W:World}{Q:Exit->Act->World->Prop}(ty:TypeId)(x y:Operand)(b k:Nat)(v:Value){m:Ms}{eo:Option Addr}{ec:Nat}(m':Ms)(hb:MsB W b m eo ec)
  (h:∀ W',MsB W' b m' eo ec->W.grownBy W' (some b)->wpList P ops Q rest a W') (hgd:o.guard=none:=by rfl) (ho:o.op=.store ty x y:=by rfl) (hd:o.dst=none:=by rfl) (hx:a.eval x=.pointer (some ⟨b,k,none⟩):=by simp[go_sem]) (hy:a.eval y=v:=by simp[go_sem]) (hk:k<9:=by omega) (hi:(P.info? ty).map (·.size)=some 1:=by kernel_rfl) (hvc:v.cells=#[v]:=by kernel_rfl) (hv:v.oneCell'=true:=by kernel_rfl) (e:(bZ m eo ec).set k v=bZ m' eo ec:=by kernel_rfl):wpList P ops Q (o :: rest) a W:=
 dM hgd ty x y ho hd b k v hx hy m' eo ec hb hk hi hvc hv e h
theorem Ch.rb{base:Nat}{w w' w'':World}(h:Ch base w w')(hb:RB w' w''):Ch base w w'':=h.trans (Ch.of_rb hb)
theorem Ch.g2{base b:Nat}{r:Option Nat}{w w' w'':World}(h:Ch base w w')(g:G2 b r w' w'')(h1:w.heap.size<=b)(h2:∀ k,r=some k->base<=k/\aG w' k 47):Ch base w w'':=
 ⟨g.os.trans h.os,g.tape.trans h.tape,g.output.trans h.output,Nat.le_trans h.size g.size,fun k hk hc=>by
  have e:=h.block k hk hc;refine (g.block k (Nat.lt_of_lt_of_le hk h.size) (by omega) (fun q=>?_)).trans e;have h3:=h2 k q;rcases hc with hc|hc
  ·omega
  ·exact hc (.inr ((oG e).1 h3.2))⟩
structure NkR(n:Nd):Prop where
 p:1<=n.peers/\n.peers<=5
 i:0<=n.id/\n.id<n.peers
 c:0<=n.commit/\n.commit<=n.log.length
 t:0<=n.term/\n.term<=100000
 l:fJ n.log=true
 v:bB n.peers 0 n.votes=true
 x:n.role=3->(n.next.length:Int)=n.peers/\(n.mat.length:Int)=n.peers/\∀ i,i<n.next.length->1<=aT n.next i/\aT n.next i<=n.log.length+1/\0<=aT n.mat i/\aT n.mat i<=n.log.length
theorem pZ{n:Nd}(h:bY n=true):NkR n:=by
 have hp:=dW h;have hx:=fun hr=>qR h hr
 simp only[bY,Bool.and_eq_true]at h;obtain⟨_,_,h2,_,⟨h4,_⟩,h5,h6⟩:=h;refine⟨⟨hp.1,hp.2.1⟩,hp.2.2,of_decide_eq_true h5,of_decide_eq_true h2,h4,?_,hx⟩;unfold cB at h6
 split at h6
 ·simp only[Bool.and_eq_true]at h6;exact h6.1
 ·split at h6
  ·simp only[Bool.and_eq_true,List.isEmpty_iff]at h6
   rw[h6.1];rfl
  ·split at h6
   ·simp only[Bool.and_eq_true]at h6;exact h6.1
   ·cases h6
theorem kK{n:Nd}{t:Int}(h:bY n=true)(ht:1<=t/\t<=100000):NkR (lJ n t):=by
 have k:=pZ h;exact⟨k.p,k.i,k.c,by show 0<=t/\t<=100000;omega,k.l,rfl,fun hr=>by simp[lJ]at hr⟩
theorem sF{N:Nd}{w:World}{base:Nat}{s:NdS}(h:NkR N)(hO:NdO w base N s)(hl:N.log.length<=1048576)(ht:∀ k,k<N.log.length->(cS N.log k).size<=1048576)(hv:N.votes.length<=1048576)(hx:N.next.length<=1048576)(hm:N.mat.length<=1048576):NdZ N s:=
 ⟨hl,hv,hx,hm,hO.K.l,hO.K.v,hO.K.x,hO.K.m,ht⟩
structure RS(w:World)(base qb e0:Nat)(N:Nd)(sN:NdS)(m:Ms)(eo:Option Addr)(ec:Nat)(RE:Ms)(W:World):Prop where
 a:NdB W w.heap.size N sN
 m:MsB W (w.heap.size+1) m eo ec
 r:NdB W (w.heap.size+1+1) aU aP
 q:MsB W qb RE none 0
 o:NdO W base N sN
 z:GOwn W w.heap.size 29 9 (some ⟨e0,0,none⟩) 0 0 (lf (jV []))
 c:Ch base w W
 s:w.heap.size+1+1<qb
 t:e0<qb
theorem RS.next{w W W':World}{base qb e0:Nat}{N:Nd}{sN:NdS}{m:Ms}{eo:Option Addr}{ec:Nat}{RE:Ms}(h:RS w base qb e0 N sN m eo ec RE W)(hb:RB W W'):RS w base qb e0 N sN m eo ec RE W':=
 ⟨vn h.a hb,vn h.m hb,vn h.r hb,vn h.q hb,h.o.next hb,GOwn.next h.z hb,h.c.trans (Ch.of_rb hb),h.s,h.t⟩
theorem RS.putQ{w W W':World}{base qb e0:Nat}{N:Nd}{sN:NdS}{m:Ms}{eo:Option Addr}{ec:Nat}{RE RE':Ms}(h:RS w base qb e0 N sN m eo ec RE W)(v:MsB W' qb RE' none 0)(g:W.grownBy W' (some qb)):RS w base qb e0 N sN m eo ec RE' W':=by
 have hs:=h.s;have ht:=h.t;have hT:∀ x,some qb=some x->aG W x 29:=fun x e=>by cases e;exact h.q.typed
 exact⟨VHas.gr h.a g hT (by decide),VHas.grown h.m g (fun e=>by have:=oI e;omega),VHas.gr h.r g hT (by decide),v,h.o.gr g hT (by decide) (by decide),GOwn.grown h.z g (fun x e q=>by
  have h1:qb=x:=oI q;have h2:e0=x:=oI e
  omega),h.c.box g (by omega),hs,ht⟩
theorem RS.putA{w W W':World}{base qb e0:Nat}{N N':Nd}{sN sN':NdS}{m:Ms}{eo:Option Addr}{ec:Nat}{RE:Ms}(h:RS w base qb e0 N sN m eo ec RE W)(v:NdB W' w.heap.size N' sN')(o:NdO W' base N' sN')(g:W.grownBy W' (some w.heap.size)):RS w base qb e0 N' sN' m eo ec RE W':=by
 have hs:=h.s;have hT:∀ x,some w.heap.size=some x->aG W x 27:=fun x e=>by cases e;exact h.a.typed
 exact⟨v,VHas.gr h.m g hT (by decide),VHas.grown h.r g (fun e=>by have:=oI e;omega),VHas.gr h.q g hT (by decide),o,GOwn.gr h.z g hT (by decide),h.c.box g nl,hs,h.t⟩
theorem kL{w W:World}{e0:Nat}(h:GOwn W w.heap.size 29 9 (some ⟨e0,0,none⟩) 0 0 (lf (jV []))):NetV w.heap.size [] (.slice (some ⟨e0,0,none⟩) 0 0) W:=⟨_,_,[],rfl,rfl,h,fun q hq=>by cases hq⟩
theorem NetV.ch{base b:Nat}{ms:List Ms}{v:Value}{w w':World}(h:NetV b ms v w)(hc:w.grownBy w' (some base))(ht:aG w base 27):NetV b ms v w':=NetV.gr h hc ht
end
section
open Go Go.RowKit
theorem CQ:O8 oP=true:=by decide
structure Bk(n:Nd):Prop where
 p:1<=n.peers/\n.peers<=5
 i:0<=n.id/\n.id<n.peers
 t:0<=n.term/\n.term<=100000
 v:n.vote = -1\/(0<=n.vote/\n.vote<n.peers)
 l:fJ n.log=true
 a:bM n.log<=n.term
 c:0<=n.commit/\n.commit<=n.log.length
theorem lC(n:Nd):bY n=true↔Bk n/\cB n=true:=by
 simp only[bY,dS,Bool.and_eq_true,Bool.or_eq_true,beq_iff_eq,decide_eq_true_eq];exact⟨fun ⟨h1,h2,h3,h4,⟨h5,h6⟩,h7,h8⟩=>⟨⟨h1,h2,h3,h4,h5,h6,h7⟩,h8⟩,fun ⟨⟨h1,h2,h3,h4,h5,h6,h7⟩,h8⟩=>⟨h1,h2,h3,h4,⟨h5,h6⟩,h7,h8⟩⟩
structure OkN(n:Nd):Prop where
 b:Bk n
 r:cB n=true
 z:n.role=3->0<n.term/\n.log≠[]
theorem OkN.B{n:Nd}(h:OkN n):bY n=true:=(lC n).2 ⟨h.b,h.r⟩
theorem OkN.R{n:Nd}(h:OkN n):dG n=true:=by
 rw[dG,h.B,Bool.true_and];rcases bq (n.role==3) with q|q
 ·have:=(h.z (by simpa using q)).1
  simp[q];omega
 ·simp[q]
theorem OkN.fol{n:Nd}(h:Bk n)(h1:n.role=1)(h2:n.votes=[])(h3:n.next=[])(h4:n.mat=[]):OkN n:=⟨h,by simp[cB,h1,h2,h3,h4],fun q=>by omega⟩
structure LdR(n:Nd):Prop where
 v:bB n.peers 0 n.votes=true
 x:(n.next.length:Int)=n.peers
 m:(n.mat.length:Int)=n.peers
 r:∀ i,i<n.next.length->1<=aT n.next i/\aT n.next i<=n.log.length+1/\0<=aT n.mat i/\aT n.mat i<=n.log.length
theorem jN{n:Nd}(h:cB n=true)(hr:n.role=3):LdR n:=by
 simp only[cB,hr,if_true,fK,Bool.and_eq_true,decide_eq_true_eq,List.all_eq_true,List.mem_range,cA]at h;exact⟨h.1,h.2.1.1,h.2.1.2,h.2.2⟩
theorem LdR.role{n:Nd}(h:LdR n)(hr:n.role=3):cB n=true:=by
 simp only[cB,hr,if_true,fK,Bool.and_eq_true,decide_eq_true_eq,List.all_eq_true,List.mem_range,cA];exact⟨h.v,⟨h.x,h.m⟩,h.r⟩
theorem Z1(n:Nd):∀ k,n.commit<=A5 n k/\(A5 n k<=k\/A5 n k=n.commit)
 | 0=>⟨Int.le_refl _,.inr rfl⟩
 | k+1=>by
  have ih:=Z1 n k;rw[A5]
  split
  ·split
   ·omega
   ·omega
  ·omega
theorem lS(n:Nd)(h:n.commit<=n.log.length):n.commit<=lH n/\lH n<=n.log.length:=by
 have:=Z1 n n.log.length;unfold lH;omega
theorem kH(l:List Int)(k:Nat)(x:Int)(j:Nat):aT (l.set k x) j=if k=j/\j<l.length then x else aT l j:=by
 unfold aT;rw[List.getD_eq_getElem?_getD,List.getD_eq_getElem?_getD,List.getElem?_set]
 by_cases q:k=j
 ·subst q
  by_cases q2:k<l.length
  ·simp[q2]
  ·simp[q2]
 ·simp[q]
theorem OkN.mi{n:Nd}(b:Bk n)(h:LdR n)(hr:n.role=3)(ht:0<n.term)(hl:n.log≠[])(i:Nat):OkN (gU n i):=by
 have hb:=lS (cF n i) b.c.2
 have h2:LdR (gU n i):=⟨h.v,h.x,by simp only[gU,List.length_set];exact h.m,fun j hj=>by
  have hrj:=h.r j hj
  show 1<=aT n.next j/\aT n.next j<=n.log.length+1/\0<=aT (n.mat.set i n.log.length) j/\aT (n.mat.set i n.log.length) j<=n.log.length
  rw[kH]
  split<;>omega⟩
 exact⟨⟨b.p,b.i,b.t,b.v,b.l,b.a,⟨Int.le_trans b.c.1 hb.1,hb.2⟩⟩,h2.role hr,fun _=>⟨ht,hl⟩⟩
theorem pD(l:List En)(e:En)(k:Nat):cL (l++[e]) k=if k<l.length then cL l k else if k=l.length then e.t else 0:=by
 unfold cL;simp only[List.getD_eq_getElem?_getD,List.getElem?_append]
 split
 ·rfl
 ·split
  ·next h=>simp[h]
  ·have:k-l.length≠0:=by omega
   have:([e]:List En)[k-l.length]?=none:=by simp;omega
   simp[this,FO]
theorem rM(l:List En)(e:En)(k:Nat)(h:k<=l.length):cS (l++[e]) k=if k<l.length then cS l k else e.x:=by
 unfold cS;simp only[List.getD_eq_getElem?_getD,List.getElem?_append]
 split
 ·rfl
 ·have:k-l.length=0:=by omega
  simp[this]
theorem Q0(l:List En)(e:En):bM (l++[e])=e.t:=by
 simp[bM,dR,pD]
theorem fR(l:List En):fJ l=true↔l.length<=200/\∀ k,k<l.length->dJ (cL l) (cS l) k=true:=by
 simp[fJ,eD]
theorem Z2{l:List En}{e:En}(h:fJ l=true)(h1:l.length<200)(h2:1<=e.t/\e.t<=100000)(h3:bM l<=e.t)(hc:O8 e.x=true):fJ (l++[e])=true:=by
 rw[fR]at h ⊢;refine⟨by simp;omega,fun k hk=>?_⟩;simp at hk
 by_cases q:k<l.length
 ·have:=h.2 k q
  have e1:cL (l++[e]) k=cL l k:=by rw[pD,if_pos q]
  have e2:cS (l++[e]) k=cS l k:=by rw[rM _ _ _ (by omega),if_pos q]
  have e3:cL (l++[e]) (k-1)=cL l (k-1):=by rw[pD,if_pos (by omega)]
  unfold dJ at this ⊢;rw[e1,e2,e3];exact this
 ·have q':k=l.length:=by omega
  subst q';have e1:cL (l++[e]) l.length=e.t:=by rw[pD,if_neg (by omega),if_pos rfl]
  have e2:cS (l++[e]) l.length=e.x:=by rw[rM _ _ _ (by omega),if_neg (by omega)]
  unfold dJ;rw[e1,e2,hc]
  by_cases z:l.length=0
  ·simp[z,h2.1,h2.2]
  ·have e3:cL (l++[e]) (l.length-1)=cL l (l.length-1):=by rw[pD,if_pos (by omega)]
   rw[e3];simp only[bM,dR,if_neg z]at h3;simp[h2.1,h2.2,h3]
theorem Bk.pr{n:Nd}(h:Bk n)(hr:gP n=true){t:ByteArray}(hc:O8 t=true):Bk (iO n t):=by
 simp only[gP,Bool.and_eq_true,decide_eq_true_eq]at hr;have h1:=h.t;refine⟨h.p,h.i,h.t,h.v,Z2 h.l hr.1 ⟨by show 1<=n.term;omega,h1.2⟩ h.a hc,by rw[show (iO n t).log=n.log++[⟨n.term,t⟩] from rfl,Q0];exact Int.le_refl _,?_⟩;have:=h.c;simp[iO];omega
theorem LdR.pr{n:Nd}(h:LdR n)(t:ByteArray):LdR (iO n t):=⟨h.v,h.x,h.m,fun i hi=>by
 have:=h.r i hi;simp[iO]
 omega⟩
theorem rN(n:Nat)(x:Int)(i:Nat)(h:i<n):aT (List.replicate n x) i=x:=by simp[aT,h]
theorem OkN.ld{n:Nd}(b:Bk n)(hv:bB n.peers 0 n.votes=true)(ht:0<n.term):OkN (eJ n):=by
 have b1:Bk (iT n):=⟨b.p,b.i,b.t,b.v,b.l,b.a,b.c⟩
 have hp:=b.p
 have l1:LdR (iT n):=⟨hv,by simp[iT];omega,by simp[iT];omega,fun i hi=>by
  have hi':i<n.peers.toNat:=by simpa[iT] using hi
  simp only[iT];rw[rN _ _ _ hi',rN _ _ _ hi']
  omega⟩
 unfold eJ pT
 split
 ·next hr=>exact OkN.mi (b1.pr hr CQ) (l1.pr _) rfl ht (by simp[iO]) _
 ·next hr=>
  refine OkN.mi b1 l1 rfl ht ?_ _;intro q;apply hr;have q':n.log=[]:=q;simp[gP,iT,q',ht]
theorem OkN.tm{n:Nd}(h:OkN n):OkN (T9 n):=by
 unfold T9;rw[if_pos h.B]
 split
 ·exact h
 ·next hb=>
  have hb':n.role≠3/\n.term≠100000:=by simpa[T8] using hb
  have ht:=h.b.t;have hi:=h.b.i;have b2:Bk (iP n):=⟨h.b.p,h.b.i,by simp only[iP];omega,.inr h.b.i,h.b.l,by have:=h.b.a;simp only[iP];omega,h.b.c⟩
  have v2:bB (iP n).peers 0 (iP n).votes=true:=by simp[iP,bB,hi.1,hi.2]
  split
  ·exact OkN.ld b2 v2 (by simp only[iP];omega)
  ·refine⟨b2,?_,fun q=>by simp[iP]at q⟩
   have hr:=h.r;simp only[cB,if_neg hb'.1]at hr
   have:n.next=[]/\n.mat=[]:=by
    split at hr
    ·simp at hr;exact hr.2
    ·split at hr
     ·simp at hr;exact hr.2
     ·cases hr
   have v3:bB n.peers 0 [n.id]=true:=v2;simp[cB,iP,this.1,this.2,v3]
theorem OkN.pr{n:Nd}(h:OkN n)(t:ByteArray):OkN (S4 n t):=by
 unfold S4;rw[if_pos h.B]
 split
 ·next hp=>
  simp only[K3,Bool.and_eq_true,beq_iff_eq]at hp;exact OkN.mi (h.b.pr hp.2.2 hp.1) ((jN h.r hp.2.1).pr t) hp.2.1 (h.z hp.2.1).1 (by simp[iO]) _
 ·exact h
theorem OkN.rs{n:Nd}(h:OkN n):OkN (S5 n):=OkN.fol ⟨h.b.p,h.b.i,h.b.t,h.b.v,h.b.l,h.b.a,⟨Int.le_refl _,by simp[S5]⟩⟩ rfl rfl rfl rfl
theorem OkN.up{n:Nd}(h:OkN n){t:Int}(h1:n.term<t)(h2:t<=100000):OkN (lJ n t):=OkN.fol ⟨h.b.p,h.b.i,by have:=h.b.t;simp only[lJ];omega,.inl rfl,h.b.l,by have:=h.b.a;simp only[lJ];omega,h.b.c⟩ rfl rfl rfl rfl
theorem OkN.fo{n:Nd}(h:OkN n):OkN (bV n):=OkN.fol ⟨h.b.p,h.b.i,h.b.t,h.b.v,h.b.l,h.b.a,h.b.c⟩ rfl rfl rfl rfl
theorem lT(p:Int)(f:Int->Bool):∀ (k:Nat) (a:Int) (l:List Int),0<=a->(∀ j,j<l.length->aT l j=a+j)->l.length=k->a+k<=p->∀ a',a'<=a->bB p a' (l.filter f)=true
 | 0,a,l,h0,h1,h2,h3,a',h4=>by
  have:l=[]:=List.length_eq_zero_iff.1 h2;subst this;rfl
 | k+1,a,[],h0,h1,h2,h3,a',h4=>by simp at h2
 | k+1,a,x :: r,h0,h1,h2,h3,a',h4=>by
  have hx:x=a:=by simpa[aT] using h1 0 (by simp)
  have hr:∀ j,j<r.length->aT r j=(a+1)+j:=fun j hj=>by
   have:=h1 (j+1) (by simpa using hj);simp[aT]at this ⊢;omega
  have hk:r.length=k:=by simpa using h2
  rw[List.filter_cons]
  split
  ·simp only[bB,Bool.and_eq_true,decide_eq_true_eq]
   subst hx;exact⟨h4,by omega,lT p f k (x+1) r (by omega) hr hk (by omega) (x+1) (by omega)⟩
  ·exact lT p f k (a+1) r (by omega) hr hk (by omega) a' (by omega)
theorem xY(p:Int)(h:0<=p)(vs:List Int)(fr:Int):bB p 0 (tS p.toNat vs fr)=true:=by
 refine lT p _ p.toNat 0 _ (by omega) (fun j hj=>?_) (by simp) (by omega) 0 (by omega);simp at hj;simp[aT,hj]
theorem OkN.vd{n:Nd}(h:OkN n)(m:Ms)(hm:1<=m.term):OkN (rG n m):=by
 unfold rG
 split
 ·next hb=>
  simp only[tU,Bool.and_eq_true,beq_iff_eq]at hb;have hp:=h.b.p;have hv:=xY n.peers (by omega) n.votes m.frm;have b2:Bk (mL n m.frm):=⟨h.b.p,h.b.i,h.b.t,h.b.v,h.b.l,h.b.a,h.b.c⟩
  split
  ·exact OkN.ld b2 hv (by show 0<n.term;omega)
  ·have hr:=h.r
   simp only[cB,hb.1,Bool.and_eq_true]at hr;refine⟨b2,?_,fun q=>by have q':n.role=3:=q;omega⟩;simp only[cB,mL,hb.1];simp at hr ⊢;exact⟨hv,hr.2⟩
 ·exact h
theorem OkN.vy{n:Nd}(h:OkN n)(m:Ms)(hf:0<=m.frm/\m.frm<n.peers):OkN (rK n m):=by
 unfold rK
 split
 ·exact⟨⟨h.b.p,h.b.i,h.b.t,.inr hf,h.b.l,h.b.a,h.b.c⟩,h.r,h.z⟩
 ·exact h
theorem xZ{k:Nat}{T:Nat->Int}{X:Nat->ByteArray}{j:Nat}(h:j<k):cL (jW k T X) j=T j:=by simp[cL,jW,h]
theorem rO{k:Nat}{T:Nat->Int}{X:Nat->ByteArray}{j:Nat}(h:j<k):cS (jW k T X) j=X j:=by simp[cS,jW,h]
theorem Z3{k:Nat}{T:Nat->Int}{X:Nat->ByteArray}(h:eD k T X=true):fJ (jW k T X)=true:=by
 rw[fR,dO];simp only[eD,Bool.and_eq_true,decide_eq_true_eq,List.all_eq_true,List.mem_range]at h;refine⟨h.1,fun j hj=>?_⟩;have:=h.2 j hj;unfold dJ at this ⊢;rw[xZ hj,rO hj,xZ (by omega)];exact this
theorem sU{l:List En}(h:fJ l=true):∀ k j,j<=k->k<l.length->cL l j<=cL l k
 | 0,j,h1,h2=>by
  have:j=0:=by omega
  subst this;exact Int.le_refl _
 | k+1,j,h1,h2=>by
  by_cases q:j=k+1
  ·subst q;exact Int.le_refl _
  ·have:=sU h k j (by omega) (by omega)
   have h3:=(fR l).1 h |>.2 (k+1) h2
   simp only[dJ,Bool.and_eq_true,decide_eq_true_eq]at h3;have h4:=h3.2.2.2;simp at h4;omega
theorem zX{l:List En}(h:fJ l=true){j:Nat}(hj:j<l.length):cL l j<=bM l:=by
 unfold bM dR;rw[if_neg (by omega)];exact sU h _ _ (by omega) (by omega)
theorem lD{n:Nd}{m:Ms}(h:qX n m=true):fJ n.log=true/\0<=m.index/\m.index<=n.log.length/\BE n m=true/\n.commit<=(kU n m).length:=by
 simp only[qX,jQ,Bool.and_eq_true,decide_eq_true_eq]at h;exact⟨h.1.1,h.1.2.1,h.1.2.2.1,h.2.1,h.2.2.1⟩
theorem wG{n:Nd}{m:Ms}(h:qX n m=true)(he:fJ m.ents=true):fJ (kU n m)=true/\bM (kU n m)<=max (bM n.log) (bM m.ents)/\qF m<=(kU n m).length:=by
 obtain⟨h1,h2,h3,h4,_⟩:=lD h;have h4':mD n.log.length (cL n.log) (cS n.log) m.index m.ents.length (cL m.ents) (cS m.ents)=true:=h4
 have e1:kU n m=jW (mN n.log.length m.index.toNat m.ents.length (zE n m)) (mV m.ents.length (zE n m) m.index.toNat (cL n.log) (cL m.ents)) (mV m.ents.length (zE n m) m.index.toNat (cS n.log) (cS m.ents)):=by
  unfold kU lB;rw[if_pos h4'];rfl
 have h5:eD (mN n.log.length m.index.toNat m.ents.length (zE n m)) (mV m.ents.length (zE n m) m.index.toNat (cL n.log) (cL m.ents)) (mV m.ents.length (zE n m) m.index.toNat (cS n.log) (cS m.ents))=true:=by
  simp only[mD,Bool.and_eq_true]at h4';exact h4'.2.2.2
 have hin:m.index.toNat+zE n m<=n.log.length:=yJ (by omega);have hle:zE n m<=m.ents.length:=DV _ _ _ _ _;have hlog:=Z3 h5;rw[<-e1]at hlog;refine⟨hlog,?_,?_⟩
 ·rw[e1]
  unfold bM dR;rw[dO]
  by_cases z:mN n.log.length m.index.toNat m.ents.length (zE n m)=0
  ·rw[if_pos z]
   have:0<=bM n.log:=by
    unfold bM dR
    split
    ·exact Int.le_refl _
    ·have:=(fR n.log).1 h1 |>.2 (n.log.length-1) (by omega)
     simp only[dJ,Bool.and_eq_true,decide_eq_true_eq]at this;omega
   unfold bM dR at this;omega
  ·rw[if_neg z,xZ (by omega)]
   have a1:∀ j,j<n.log.length->cL n.log j<=bM n.log:=fun j hj=>zX h1 hj
   have a2:∀ j,j<m.ents.length->cL m.ents j<=bM m.ents:=fun j hj=>zX he hj
   unfold bM dR at a1 a2;unfold mN mV at *
   by_cases q:zE n m<m.ents.length
   ·rw[if_pos q]at z ⊢
    rw[if_pos q];unfold nY
    split
    ·have:=a1 (m.index.toNat+m.ents.length-1) (by omega)
     omega
    ·have:=a2 (m.index.toNat+m.ents.length-1-m.index.toNat) (by omega)
     omega
   ·rw[if_neg q]at z ⊢
    rw[if_neg q];have:=a1 (n.log.length-1) (by omega);omega
 ·rw[e1,dO]
  unfold qF mN
  split<;>omega
theorem OkN.ap{n:Nd}(h:OkN n)(m:Ms)(he:fJ m.ents=true)(hl:bM m.ents<=m.term)(hm:m.term<=n.term):OkN (jY n m):=by
 unfold jY
 split
 ·exact h
 ·split
  ·exact h
  ·split
   ·next hF=>
    obtain⟨h1,h2,h3,h4,h5⟩:=lD hF;obtain⟨g1,g2,g3⟩:=wG hF he;have ha:=h.b.a;have hc:=h.b.c;have g2':bM (kU (bV n) m)<=max (bM n.log) (bM m.ents):=g2;have h5':n.commit<=(kU (bV n) m).length:=h5;exact OkN.fol ⟨h.b.p,h.b.i,h.b.t,h.b.v,g1,by show bM (kU (bV n) m)<=n.term;omega,by show 0<=max n.commit (min m.commit (qF m))/\max n.commit (min m.commit (qF m))<=((kU (bV n) m).length:Int);omega⟩ rfl rfl rfl rfl
   ·exact h.fo
theorem OkN.apd{n:Nd}(h:OkN n)(m:Ms)(fr:Nat)(hf:(fr:Int)<n.peers):OkN (jU n m fr):=by
 unfold jU
 split
 ·next hb=>
  have hL:=jN h.r hb.1;have hz:=h.z hb.1;have hx:fr<n.next.length:=by have:=hL.x;omega
  have hm:fr<n.mat.length:=by have:=hL.m;omega
  have hr:=hL.r fr hx
  split
  ·have c2:=lS (fU (eB n fr (dL n m fr)) fr (dL n m fr+1)) h.b.c.2
   have c1:=h.b.c.1;have hM:aT n.mat fr<=dL n m fr/\dL n m fr<=n.log.length:=by unfold dL;split<;>omega
   refine⟨⟨h.b.p,h.b.i,h.b.t,h.b.v,h.b.l,h.b.a,⟨Int.le_trans c1 c2.1,c2.2⟩⟩,LdR.role ⟨hL.v,by simp[yP,fU,eB];exact hL.x,by simp[yP,fU,eB];exact hL.m,fun j hj=>?_⟩ hb.1,h.z⟩;have hrj:=hL.r j (by simpa[yP,fU,eB] using hj)
   show 1<=aT (n.next.set fr _) j/\aT (n.next.set fr _) j<=(n.log.length:Int)+1/\0<=aT (n.mat.set fr _) j/\aT (n.mat.set fr _) j<=(n.log.length:Int)
   rw[kH,kH]
   split<;>split<;>omega
  ·have hX:1<=rD n m fr/\rD n m fr<=n.log.length+1:=by unfold rD;omega
   refine⟨⟨h.b.p,h.b.i,h.b.t,h.b.v,h.b.l,h.b.a,h.b.c⟩,LdR.role ⟨hL.v,by simp[fU];exact hL.x,hL.m,fun j hj=>?_⟩ hb.1,h.z⟩;have hrj:=hL.r j (by simpa[fU] using hj)
   show 1<=aT (n.next.set fr _) j/\aT (n.next.set fr _) j<=(n.log.length:Int)+1/\0<=aT n.mat j/\aT n.mat j<=(n.log.length:Int)
   rw[kH]
   split<;>omega
 ·exact h
theorem OkN.rc1{n:Nd}(h:OkN n)(m:Ms)(hm:m.term<=100000):OkN (rc1 n m)/\m.term<=(rc1 n m).term/\n.term<=(rc1 n m).term/\(rc1 n m).peers=n.peers/\(rc1 n m).id=n.id:=by
 unfold Go.Proofs.YtbabakgjkloabaaGreatDoor.rc1
 split
 ·next q=>exact⟨h.up q hm,Int.le_refl _,Int.le_of_lt q,rfl,rfl⟩
 ·next q=>exact⟨h,by omega,Int.le_refl _,rfl,rfl⟩
theorem OkN.rcv{n:Nd}(h:OkN n)(m:Ms):OkN (cK n m):=by
 unfold cK
 split
 ·next hF=>
  simp only[gV,dS,Bool.and_eq_true,decide_eq_true_eq]at hF;obtain⟨_,_,hf,_,_,ht1,ht2,he,hl⟩:=hF;obtain⟨h1,h2,_,hp,_⟩:=h.rc1 m ht2;unfold gE
  split
  ·exact h1.vy m (by rw[hp];exact hf)
  ·split
   ·exact h1.vd m ht1
   ·split
    ·exact h1.ap m he hl h2
    ·exact h1.apd m _ (by rw[hp];omega)
 ·exact h
structure Trn(n x:Nd):Prop where
 i:x.id=n.id
 p:x.peers=n.peers
 t:n.term<=x.term
 v:x.term=n.term->n.vote = -1\/x.vote=n.vote
 c:n.commit<=x.commit
theorem Trn.refl(n:Nd):Trn n n:=⟨rfl,rfl,Int.le_refl _,fun _=>.inr rfl,Int.le_refl _⟩
theorem Trn.trans{a b c:Nd}(h:Trn a b)(k:Trn b c):Trn a c:=⟨k.i.trans h.i,k.p.trans h.p,Int.le_trans h.t k.t,fun e=>by
 have h1:=h.t;have h2:=k.t;rcases h.v (by omega) with q|q
 ·exact .inl q
 ·rcases k.v (by omega) with q2|q2
  ·exact .inl (q ▸ q2)
  ·exact .inr (q2.trans q),Int.le_trans h.c k.c⟩
theorem iG(n:Nd):(pT n).id=n.id/\(pT n).peers=n.peers/\(pT n).term=n.term/\(pT n).vote=n.vote/\(pT n).commit=n.commit/\n.log.length<=(pT n).log.length:=by
 unfold pT
 split
 ·exact⟨rfl,rfl,rfl,rfl,rfl,by simp[iO,iT]⟩
 ·exact⟨rfl,rfl,rfl,rfl,rfl,Nat.le_refl _⟩
theorem Trn.ld{n:Nd}(h:Bk n):Trn n (eJ n):=by
 have e:=iG n
 have hb:=lS (cF (pT n) n.id.toNat) (by
  show (pT n).commit<=(pT n).log.length
  have:=h.c
  omega)
 exact⟨e.1,e.2.1,Int.le_of_eq e.2.2.1.symm,fun _=>.inr e.2.2.2.1,by
  have h1:(cF (pT n) n.id.toNat).commit=n.commit:=e.2.2.2.2.1;have h2:(eJ n).commit=lH (cF (pT n) n.id.toNat):=rfl
  omega⟩
theorem Trn.rk{n:Nd}(h:OkN n)(m:Ms):Trn n (gE n m):=by
 unfold gE
 split
 ·unfold rK
  split
  ·next hb=>
   simp only[tV,Bool.and_eq_true,Bool.or_eq_true,beq_iff_eq]at hb
   exact⟨rfl,rfl,Int.le_refl _,fun _=>by
    rcases hb.2.1 with q|q
    ·exact .inl q
    ·exact .inr q.symm,Int.le_refl _⟩
  ·exact Trn.refl n
 ·split
  ·unfold rG
   split
   ·have b2:Bk (mL n m.frm):=⟨h.b.p,h.b.i,h.b.t,h.b.v,h.b.l,h.b.a,h.b.c⟩
    have h1:Trn n (mL n m.frm):=⟨rfl,rfl,Int.le_refl _,fun _=>.inr rfl,Int.le_refl _⟩
    split
    ·exact h1.trans (Trn.ld b2)
    ·exact h1
   ·exact Trn.refl n
  ·split
   ·unfold jY
    split
    ·exact Trn.refl n
    ·split
     ·exact Trn.refl n
     ·split
      ·exact⟨rfl,rfl,Int.le_refl _,fun _=>.inr rfl,by simp only[Q8];omega⟩
      ·exact⟨rfl,rfl,Int.le_refl _,fun _=>.inr rfl,Int.le_refl _⟩
   ·unfold jU
    split
    ·split
     ·exact⟨rfl,rfl,Int.le_refl _,fun _=>.inr rfl,(lS (fU (eB n m.frm.toNat (dL n m m.frm.toNat)) m.frm.toNat (dL n m m.frm.toNat+1)) h.b.c.2).1⟩
     ·exact⟨rfl,rfl,Int.le_refl _,fun _=>.inr rfl,Int.le_refl _⟩
    ·exact Trn.refl n
theorem Trn.rcv{n:Nd}(h:OkN n)(m:Ms):Trn n (cK n m):=by
 unfold cK
 split
 ·next hF=>
  simp only[gV,dS,Bool.and_eq_true,decide_eq_true_eq]at hF;obtain⟨_,_,_,_,_,_,ht2,_,_⟩:=hF;have h1:=(h.rc1 m ht2).1;refine Trn.trans ?_ (Trn.rk h1 m);unfold Go.Proofs.YtbabakgjkloabaaGreatDoor.rc1
  split
  ·next q=>exact⟨rfl,rfl,Int.le_of_lt q,fun e=>by have e':m.term=n.term:=e;omega,Int.le_refl _⟩
  ·exact Trn.refl n
 ·exact Trn.refl n
theorem rY{id:Int}{g:Nat->Ms}{P:Ms->Prop}(h:∀ k,P (g k)):∀ k,∀ q∈eE id g k,P q
 | 0,q,hq=>by simp[eE]at hq
 | k+1,q,hq=>by
  unfold eE at hq
  split at hq
  ·exact rY h k q hq
  ·rcases List.mem_append.1 hq with r|r
   ·exact rY h k q r
   ·rw[List.mem_singleton.1 r];exact h k
theorem BG(n:Nd):∀ q∈dU n,q.term=n.term/\q.frm=n.id:=rY (fun _=>⟨rfl,rfl⟩) _
theorem EI(n:Nd)(m:Ms):∀ q∈iQ n m,q.term=(gE n m).term/\q.frm=n.id:=by
 intro q hq;unfold iQ at hq;unfold gE
 split at hq
 ·next k1=>
  rw[if_pos k1];rw[List.mem_singleton.1 hq];refine⟨rfl,?_⟩
  show (rK n m).id=n.id
  unfold rK
  split<;>rfl
 ·next k1=>
  rw[if_neg k1]
  split at hq
  ·next k2=>
   rw[if_pos k2];unfold wZ at hq;unfold rG
   split at hq
   ·next b1=>
    rw[if_pos b1]
    split at hq
    ·next b2=>
     rw[if_pos b2];have:=BG (eJ (mL n m.frm)) q hq;exact⟨this.1,this.2.trans (iG (mL n m.frm)).1⟩
    ·simp at hq
   ·simp at hq
  ·next k2=>
   rw[if_neg k2]
   split at hq
   ·next k3=>
    rw[if_pos k3];unfold mB at hq;unfold jY
    split at hq
    ·next b1=>rw[if_pos b1,List.mem_singleton.1 hq];exact⟨rfl,rfl⟩
    ·next b1=>
     rw[if_neg b1]
     split at hq
     ·simp at hq
     ·next b2=>
      rw[if_neg b2]
      split at hq
      ·next b3=>rw[if_pos b3,List.mem_singleton.1 hq];exact⟨rfl,rfl⟩
      ·next b3=>rw[if_neg b3,List.mem_singleton.1 hq];exact⟨rfl,rfl⟩
   ·simp at hq
theorem CZ(n:Nd)(m:Ms):∀ q∈eT n m,q.term=(cK n m).term/\q.frm=n.id:=by
 intro q hq;unfold eT at hq;unfold cK
 split at hq
 ·next hF=>
  rw[if_pos hF];have:=EI (rc1 n m) m q hq;refine⟨this.1,this.2.trans ?_⟩;unfold Go.Proofs.YtbabakgjkloabaaGreatDoor.rc1
  split<;>rfl
 ·simp at hq
def TxL(l:List En):Prop:=∀ k,k<l.length->(cS l k).size<=1048576
theorem TxL.nil:TxL []:=fun k hk=>by simp at hk
theorem TxL.snoc{l:List En}{e:En}(h:TxL l)(he:e.x.size<=1048576):TxL (l++[e]):=fun k hk=>by
 rw[rM l e k (by simp at hk;omega)]
 split
 ·next q=>exact h k q
 ·exact he
theorem TxL.drop{l:List En}(h:TxL l)(i:Nat):TxL (l.drop i):=fun k hk=>by
 have e:cS (l.drop i) k=cS l (i+k):=by simp[cS,List.getD_eq_getElem?_getD]
 rw[e];exact h _ (by simp at hk;omega)
theorem TxL.take{l:List En}(h:TxL l)(i:Nat):TxL (l.take i):=fun k hk=>by
 have hk':k<i/\k<l.length:=by simp at hk;omega
 have e:cS (l.take i) k=cS l k:=by simp[cS,List.getD_eq_getElem?_getD,List.getElem?_take,hk'.1]
 rw[e];exact h _ hk'.2
structure MsW(p:Int)(m:Ms):Prop where
 z:MsZ m
 ix:-9223372036854775808<=m.index/\m.index<=9223372036854775807
 to:0<=m.to/\m.to<p
theorem MsW.none{p:Int}{m:Ms}(h:m.ents=[])(ix:-9223372036854775808<=m.index/\m.index<=9223372036854775807)(ht:0<=m.to/\m.to<p):MsW p m:=⟨⟨by rw[h];simp,fun k hk=>by rw[h]at hk;simp at hk⟩,ix,ht⟩
theorem DF{n:Nd}(h:TxL n.log):TxL (pT n).log:=by
 unfold pT
 split
 ·exact TxL.snoc h (by simp[oP];decide)
 ·exact h
theorem F9{n:Nd}(h:TxL n.log):TxL (eJ n).log:=DF h
theorem DG{n:Nd}(h:TxL n.log):TxL (T9 n).log:=by
 unfold T9
 split
 ·split
  ·exact h
  ·split
   ·exact F9 (n:=iP n) h
   ·exact h
 ·exact TxL.nil
theorem DH{n:Nd}{t:ByteArray}(h:TxL n.log)(ht:t.size<=1048576):TxL (S4 n t).log:=by
 unfold S4
 split
 ·split
  ·exact TxL.snoc h ht
  ·exact h
 ·exact TxL.nil
theorem DI{n:Nd}{m:Ms}(h:TxL n.log)(hm:TxL m.ents)(hF:qX n m=true):TxL (kU n m):=by
 obtain⟨h1,h2,h3,h4,_⟩:=lD hF;have h4':mD n.log.length (cL n.log) (cS n.log) m.index m.ents.length (cL m.ents) (cS m.ents)=true:=h4
 have e1:kU n m=jW (mN n.log.length m.index.toNat m.ents.length (zE n m)) (mV m.ents.length (zE n m) m.index.toNat (cL n.log) (cL m.ents)) (mV m.ents.length (zE n m) m.index.toNat (cS n.log) (cS m.ents)):=by
  unfold kU lB;rw[if_pos h4'];rfl
 have hin:m.index.toNat+zE n m<=n.log.length:=yJ (by omega);rw[e1];intro k hk;rw[dO]at hk;rw[rO hk];unfold mV;unfold mN at hk
 by_cases q:zE n m<m.ents.length
 ·rw[if_pos q]at hk ⊢
  unfold nY
  split
  ·exact h _ (by omega)
  ·exact hm _ (by omega)
 ·rw[if_neg q]at hk ⊢
  exact h _ hk
theorem L2{n:Nd}{m:Ms}(h:TxL n.log)(hm:MsZ m):TxL (cK n m).log:=by
 unfold cK
 split
 ·have h1:TxL (rc1 n m).log:=by
   unfold rc1
   split
   ·exact h
   ·exact h
  generalize rc1 n m=N at h1 ⊢;unfold gE
  split
  ·unfold rK
   split
   ·exact h1
   ·exact h1
  ·split
   ·unfold rG
    split
    ·split
     ·exact F9 (n:=mL N m.frm) h1
     ·exact h1
    ·exact h1
   ·split
    ·unfold jY
     split
     ·exact h1
     ·split
      ·exact h1
      ·split
       ·next hF=>exact DI (n:=bV N) h1 hm.x hF
       ·exact h1
    ·unfold jU
     split
     ·split
      ·exact h1
      ·exact h1
     ·exact h1
 ·exact h
theorem mS{id:Int}{g:Nat->Ms}:∀ {k:Nat} {q:Ms},q∈eE id g k->∃ j,j<k/\q=g j
 | 0,q,hq=>by simp[eE]at hq
 | k+1,q,hq=>by
  unfold eE at hq
  split at hq
  ·obtain⟨j,hj,e⟩:=mS hq
   exact⟨j,by omega,e⟩
  ·rcases List.mem_append.1 hq with r|r
   ·obtain⟨j,hj,e⟩:=mS r
    exact⟨j,by omega,e⟩
   ·exact⟨k,by omega,List.mem_singleton.1 r⟩
theorem V7{n:Nd}(h:OkN n)(hr:n.role=3)(hx:TxL n.log):∀ q∈dU n,MsW n.peers q:=fun q hq=>by
 obtain⟨j,hj,rfl⟩:=mS hq;have hp:=h.b.p;have hL:=jN h.r hr;have hrj:=hL.r j (by have:=hL.x;omega);have h1:((n.log.drop (iZ n j)).take 5).length<=5:=by simp;omega
 have hl:=(fR n.log).1 h.b.l |>.1
 refine⟨⟨by show ((n.log.drop (iZ n j)).take 5).length<=1048576;omega,(hx.drop _).take 5⟩,?_,?_⟩
 ·show -9223372036854775808<=((iZ n j:Nat):Int)/\((iZ n j:Nat):Int)<=9223372036854775807
  unfold iZ;omega
 ·show 0<=(j:Int)/\(j:Int)<n.peers
  omega
theorem CO{n:Nd}(h:OkN (eJ n))(hx:TxL n.log):∀ q∈wJ n,MsW n.peers q:=fun q hq=>by
 have e:(eJ n).peers=n.peers:=(iG n).2.1;rw[<-e]
 exact V7 h (by
  show (pT n).role=3
  unfold pT
  split<;>rfl) (F9 hx) q hq
theorem EV{n:Nd}(h:OkN n)(hx:TxL n.log):∀ q∈DA n,MsW n.peers q:=fun q hq=>by
 have h2:=h.tm;have hl:=(fR n.log).1 h.b.l |>.1
 unfold DA at hq;unfold T9 at h2;rw[if_pos h.B]at hq h2
 split at hq
 ·simp at hq
 ·next b1=>
  rw[if_neg b1]at h2
  split at hq
  ·next b2=>
   rw[if_pos b2]at h2;exact CO h2 (by exact hx) q hq
  ·obtain⟨j,hj,rfl⟩:=mS hq
   have hp:=h.b.p;refine MsW.none rfl ?_ (by show 0<=(j:Int)/\(j:Int)<n.peers;omega)
   show -9223372036854775808<=((n.log.length:Nat):Int)/\((n.log.length:Nat):Int)<=9223372036854775807
   omega
theorem DJ{p:Int}{n:Nd}{m:Ms}(h:OkN n)(hx:TxL n.log)(hm:MsW p m):∀ q∈eT n m,MsW n.peers q:=fun q hq=>by
 unfold eT at hq
 split at hq
 ·next hF=>
  simp only[gV,dS,Bool.and_eq_true,decide_eq_true_eq]at hF;obtain⟨_,_,hf,_,_,ht1,ht2,he,hl⟩:=hF;obtain⟨h1,h2,_,hp,_⟩:=h.rc1 m ht2
  have hx1:TxL (rc1 n m).log:=by
   unfold rc1
   split
   ·exact hx
   ·exact hx
  generalize rc1 n m=N at h1 h2 hp hx1 hq;rw[<-hp]at hf ⊢;have hl1:=(fR N.log).1 h1.b.l |>.1
  have hme:=hm.z.l;unfold iQ at hq
  split at hq
  ·rw[List.mem_singleton.1 hq]
   exact MsW.none rfl (by show -9223372036854775808<=(0:Int)/\(0:Int)<=9223372036854775807;omega) hf
  ·split at hq
   ·have h3:=h1.vd m ht1
    unfold wZ at hq;unfold rG at h3
    split at hq
    ·next b1=>
     rw[if_pos b1]at h3
     split at hq
     ·next b2=>
      rw[if_pos b2]at h3;exact CO h3 (by exact hx1) q hq
     ·simp at hq
    ·simp at hq
   ·split at hq
    ·unfold mB at hq
     split at hq
     ·rw[List.mem_singleton.1 hq]
      exact MsW.none rfl (by show -9223372036854775808<=(0:Int)/\(0:Int)<=9223372036854775807;omega) hf
     ·split at hq
      ·simp at hq
      ·split at hq
       ·next hG=>
        obtain⟨_,g2,g3,_,_⟩:=lD hG;have g3':m.index<=(N.log.length:Int):=g3;rw[List.mem_singleton.1 hq];exact MsW.none rfl (by show -9223372036854775808<=qF m/\qF m<=9223372036854775807;unfold qF;omega) hf
       ·rw[List.mem_singleton.1 hq]
        exact MsW.none rfl (by show -9223372036854775808<=(min (N.log.length:Int) (max m.index 1-1))/\(min (N.log.length:Int) (max m.index 1-1))<=9223372036854775807;omega) hf
    ·simp at hq
 ·simp at hq
theorem lA(p:Int):∀ (l:List Int) (a:Int),0<=a->a<=p->bB p a l=true->(l.length:Int)<=p-a
 | [],a,_,h,_=>by simp;omega
 | x :: r,a,h0,h1,h=>by
  simp only[bB,Bool.and_eq_true,decide_eq_true_eq]at h;have:=lA p r (x+1) (by omega) (by omega) h.2.2;simp;omega
theorem OkN.few{n:Nd}(h:OkN n):n.log.length<=200/\n.votes.length<=5/\n.next.length<=5/\n.mat.length<=5:=by
 have hl:=(fR n.log).1 h.b.l |>.1
 have hp:=h.b.p;have hr:=h.r;refine⟨hl,?_⟩;unfold cB at hr
 split at hr
 ·next q=>
  have hL:=jN h.r q;have:=lA n.peers n.votes 0 (by omega) (by omega) hL.v;have h1:=hL.x;have h2:=hL.m;omega
 ·split at hr
  ·simp at hr
   simp[hr]
  ·split at hr
   ·simp at hr
    have:=lA n.peers n.votes 0 (by omega) (by omega) hr.1;simp[hr];omega
   ·cases hr
end
end Go.Proofs.YtbabakgjkloabaaGreatDoor
