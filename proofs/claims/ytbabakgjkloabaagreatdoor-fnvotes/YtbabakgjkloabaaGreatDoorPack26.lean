/-
  Helpers: NewS, CluS, Dcl, Ordm, DrawLh.
-/
import Derived.Test.YtbabakgjkloabaaGreatDoorPack25
set_option linter.unusedVariables false
set_option linter.unusedSimpArgs false
set_option maxRecDepth 100000
set_option maxHeartbeats 16000000
namespace Go.Proofs.YtbabakgjkloabaaGreatDoor
section
open Go.RowKit
attribute [local go_sem ↓] Go.wp_at_zero Go.wp_at_succ
theorem qT(i p:Int)(w:World):Calls Tryz.prog 96 #[.int .i64 i,.int .i64 p] w fun e w'=>e=.returned (.tuple #[if uI i p=true then .agg #[.int .i64 i,.int .i64 p,.int .i64 0,.int .i64 (-1),.slice none 0 0,.int .i64 1,.int .i64 0,.slice none 0 0,.slice none 0 0,.slice none 0 0] else .agg #[.int .i64 0,.int .i64 0,.int .i64 0,.int .i64 0,.slice none 0 0,.int .i64 0,.int .i64 0,.slice none 0 0,.slice none 0 0,.slice none 0 0],.bool (uI i p)])/\Below w.heap.size w w':=by
 have hb:Below w.heap.size w (w.alloc (.cells #[.int .i64 0,.int .i64 0,.int .i64 0,.int .i64 0,.slice none 0 0,.int .i64 0,.int .i64 0,.slice none 0 0,.slice none 0 0,.slice none 0 0] 27)):=(Below.refl _ _).alloc nl _;have vR:=Z7 w (.int .i64 0) (.int .i64 0) (.int .i64 0) (.int .i64 0) (.slice none 0 0) (.int .i64 0) (.int .i64 0) (.slice none 0 0) (.slice none 0 0) (.slice none 0 0) 27;have z0:(w.alloc (.cells #[.int .i64 0,.int .i64 0,.int .i64 0,.int .i64 0,.slice none 0 0,.int .i64 0,.int .i64 0,.slice none 0 0,.slice none 0 0,.slice none 0 0] 27)).cell? ⟨w.heap.size,0,none⟩=some (.int .i64 0):=by simp[go_sem]
 have z1:(w.alloc (.cells #[.int .i64 0,.int .i64 0,.int .i64 0,.int .i64 0,.slice none 0 0,.int .i64 0,.int .i64 0,.slice none 0 0,.slice none 0 0,.slice none 0 0] 27)).cell? ⟨w.heap.size,1,none⟩=some (.int .i64 0):=by simp[go_sem]
 have z2:(w.alloc (.cells #[.int .i64 0,.int .i64 0,.int .i64 0,.int .i64 0,.slice none 0 0,.int .i64 0,.int .i64 0,.slice none 0 0,.slice none 0 0,.slice none 0 0] 27)).cell? ⟨w.heap.size,2,none⟩=some (.int .i64 0):=by simp[go_sem]
 have z3:(w.alloc (.cells #[.int .i64 0,.int .i64 0,.int .i64 0,.int .i64 0,.slice none 0 0,.int .i64 0,.int .i64 0,.slice none 0 0,.slice none 0 0,.slice none 0 0] 27)).cell? ⟨w.heap.size,3,none⟩=some (.int .i64 0):=by simp[go_sem]
 have z4:(w.alloc (.cells #[.int .i64 0,.int .i64 0,.int .i64 0,.int .i64 0,.slice none 0 0,.int .i64 0,.int .i64 0,.slice none 0 0,.slice none 0 0,.slice none 0 0] 27)).cell? ⟨w.heap.size,4,none⟩=some (.slice none 0 0):=by simp[go_sem]
 have z5:(w.alloc (.cells #[.int .i64 0,.int .i64 0,.int .i64 0,.int .i64 0,.slice none 0 0,.int .i64 0,.int .i64 0,.slice none 0 0,.slice none 0 0,.slice none 0 0] 27)).cell? ⟨w.heap.size,5,none⟩=some (.int .i64 0):=by simp[go_sem]
 have z6:(w.alloc (.cells #[.int .i64 0,.int .i64 0,.int .i64 0,.int .i64 0,.slice none 0 0,.int .i64 0,.int .i64 0,.slice none 0 0,.slice none 0 0,.slice none 0 0] 27)).cell? ⟨w.heap.size,6,none⟩=some (.int .i64 0):=by simp[go_sem]
 have z7:(w.alloc (.cells #[.int .i64 0,.int .i64 0,.int .i64 0,.int .i64 0,.slice none 0 0,.int .i64 0,.int .i64 0,.slice none 0 0,.slice none 0 0,.slice none 0 0] 27)).cell? ⟨w.heap.size,7,none⟩=some (.slice none 0 0):=by simp[go_sem]
 have z8:(w.alloc (.cells #[.int .i64 0,.int .i64 0,.int .i64 0,.int .i64 0,.slice none 0 0,.int .i64 0,.int .i64 0,.slice none 0 0,.slice none 0 0,.slice none 0 0] 27)).cell? ⟨w.heap.size,8,none⟩=some (.slice none 0 0):=by simp[go_sem]
 have z9:(w.alloc (.cells #[.int .i64 0,.int .i64 0,.int .i64 0,.int .i64 0,.slice none 0 0,.int .i64 0,.int .i64 0,.slice none 0 0,.slice none 0 0,.slice none 0 0] 27)).cell? ⟨w.heap.size,9,none⟩=some (.slice none 0 0):=by simp[go_sem]
 have zz:=fun j=>vR.frozen j
 by_cases hp:dD p 1 5=true
 rotate_left
 ·have hh:uI i p=false:=by simp[dD]at hp;simp[uI];omega
  rw[Bool.not_eq_true]at hp;rw[hh];simp only[Bool.false_eq_true,if_false];go_enter Tryz.func96,Tryz.ntmps96
  go_wp2_with fail
  generalize (w.alloc (.cells #[.int .i64 0,.int .i64 0,.int .i64 0,.int .i64 0,.slice none 0 0,.int .i64 0,.int .i64 0,.slice none 0 0,.slice none 0 0,.slice none 0 0] 27))=W at hb vR z0 z1 z2 z3 z4 z5 z6 z7 z8 z9 zz ⊢;refine (cP p 1 5 _).mono ?_;rintro e w1 ⟨rfl,rfl⟩;rw[hp];go_wp2;have u:=((((((((((vR.set 0 (.int .i64 0)).set 1 (.int .i64 0)).set 2 (.int .i64 0)).set 3 (.int .i64 0)).set 4 (.slice none 0 0)).set 5 (.int .i64 0)).set 6 (.int .i64 0)).set 7 (.slice none 0 0)).set 8 (.slice none 0 0)).set 9 (.slice none 0 0))
  obtain⟨q0,q1,q2,q3,q4,q5,q6,q7,q8,q9⟩:=u.c10;simp at q0 q1 q2 q3 q4 q5 q6 q7 q8 q9;exact bodyPost_ret (v:=.tuple #[.agg #[.int .i64 0,.int .i64 0,.int .i64 0,.int .i64 0,.slice none 0 0,.int .i64 0,.int .i64 0,.slice none 0 0,.slice none 0 0,.slice none 0 0],.bool false]) (by simp[results,Tryz.results96,go_sem,q0,q1,q2,q3,q4,q5,q6,q7,q8,q9]) rfl ⟨rfl,((((((((((hb.setCell (p:=⟨w.heap.size,0,none⟩) nl _).setCell (p:=⟨w.heap.size,1,none⟩) nl _).setCell (p:=⟨w.heap.size,2,none⟩) nl _).setCell (p:=⟨w.heap.size,3,none⟩) nl _).setCell (p:=⟨w.heap.size,4,none⟩) nl _).setCell (p:=⟨w.heap.size,5,none⟩) nl _).setCell (p:=⟨w.heap.size,6,none⟩) nl _).setCell (p:=⟨w.heap.size,7,none⟩) nl _).setCell (p:=⟨w.heap.size,8,none⟩) nl _).setCell (p:=⟨w.heap.size,9,none⟩) nl _)⟩
 have hp':1<=p/\p<=5:=by simpa[dD] using hp
 by_cases hi:dD i 0 (p-1)=true
 rotate_left
 ·have hh:uI i p=false:=by simp[dD]at hi;simp[uI];omega
  rw[Bool.not_eq_true]at hi;rw[hh];simp only[Bool.false_eq_true,if_false];go_enter Tryz.func96,Tryz.ntmps96
  go_wp2_with fail
  generalize (w.alloc (.cells #[.int .i64 0,.int .i64 0,.int .i64 0,.int .i64 0,.slice none 0 0,.int .i64 0,.int .i64 0,.slice none 0 0,.slice none 0 0,.slice none 0 0] 27))=W at hb vR z0 z1 z2 z3 z4 z5 z6 z7 z8 z9 zz ⊢;refine (cP p 1 5 _).mono ?_;rintro e w1 ⟨rfl,rfl⟩;rw[hp]
  go_wp2_with fail
  refine (kO i p hp'.1 hp'.2 _).mono ?_;rintro e w1 ⟨rfl,rfl⟩;rw[hi];go_wp2;have u:=((((((((((vR.set 0 (.int .i64 0)).set 1 (.int .i64 0)).set 2 (.int .i64 0)).set 3 (.int .i64 0)).set 4 (.slice none 0 0)).set 5 (.int .i64 0)).set 6 (.int .i64 0)).set 7 (.slice none 0 0)).set 8 (.slice none 0 0)).set 9 (.slice none 0 0))
  obtain⟨q0,q1,q2,q3,q4,q5,q6,q7,q8,q9⟩:=u.c10;simp at q0 q1 q2 q3 q4 q5 q6 q7 q8 q9;exact bodyPost_ret (v:=.tuple #[.agg #[.int .i64 0,.int .i64 0,.int .i64 0,.int .i64 0,.slice none 0 0,.int .i64 0,.int .i64 0,.slice none 0 0,.slice none 0 0,.slice none 0 0],.bool false]) (by simp[results,Tryz.results96,go_sem,q0,q1,q2,q3,q4,q5,q6,q7,q8,q9]) rfl ⟨rfl,((((((((((hb.setCell (p:=⟨w.heap.size,0,none⟩) nl _).setCell (p:=⟨w.heap.size,1,none⟩) nl _).setCell (p:=⟨w.heap.size,2,none⟩) nl _).setCell (p:=⟨w.heap.size,3,none⟩) nl _).setCell (p:=⟨w.heap.size,4,none⟩) nl _).setCell (p:=⟨w.heap.size,5,none⟩) nl _).setCell (p:=⟨w.heap.size,6,none⟩) nl _).setCell (p:=⟨w.heap.size,7,none⟩) nl _).setCell (p:=⟨w.heap.size,8,none⟩) nl _).setCell (p:=⟨w.heap.size,9,none⟩) nl _)⟩
 have hh:uI i p=true:=by simp[dD]at hi;simp[uI];omega
 rw[hh];simp only[if_true];go_enter Tryz.func96,Tryz.ntmps96
 go_wp2_with fail
 generalize (w.alloc (.cells #[.int .i64 0,.int .i64 0,.int .i64 0,.int .i64 0,.slice none 0 0,.int .i64 0,.int .i64 0,.slice none 0 0,.slice none 0 0,.slice none 0 0] 27))=W at hb vR z0 z1 z2 z3 z4 z5 z6 z7 z8 z9 zz ⊢;refine (cP p 1 5 _).mono ?_;rintro e w1 ⟨rfl,rfl⟩;rw[hp]
 go_wp2_with fail
 refine (kO i p hp'.1 hp'.2 _).mono ?_;rintro e w1 ⟨rfl,rfl⟩;rw[hi];go_wp2;have u:=((((((((((vR.set 0 (.int .i64 i)).set 1 (.int .i64 p)).set 2 (.int .i64 0)).set 3 (.int .i64 (-1))).set 4 (.slice none 0 0)).set 5 (.int .i64 1)).set 6 (.int .i64 0)).set 7 (.slice none 0 0)).set 8 (.slice none 0 0)).set 9 (.slice none 0 0))
 obtain⟨q0,q1,q2,q3,q4,q5,q6,q7,q8,q9⟩:=u.c10;simp at q0 q1 q2 q3 q4 q5 q6 q7 q8 q9;exact bodyPost_ret (v:=.tuple #[.agg #[.int .i64 i,.int .i64 p,.int .i64 0,.int .i64 (-1),.slice none 0 0,.int .i64 1,.int .i64 0,.slice none 0 0,.slice none 0 0,.slice none 0 0],.bool true]) (by simp[results,Tryz.results96,go_sem,q0,q1,q2,q3,q4,q5,q6,q7,q8,q9]) rfl ⟨rfl,((((((((((hb.setCell (p:=⟨w.heap.size,0,none⟩) nl _).setCell (p:=⟨w.heap.size,1,none⟩) nl _).setCell (p:=⟨w.heap.size,2,none⟩) nl _).setCell (p:=⟨w.heap.size,3,none⟩) nl _).setCell (p:=⟨w.heap.size,4,none⟩) nl _).setCell (p:=⟨w.heap.size,5,none⟩) nl _).setCell (p:=⟨w.heap.size,6,none⟩) nl _).setCell (p:=⟨w.heap.size,7,none⟩) nl _).setCell (p:=⟨w.heap.size,8,none⟩) nl _).setCell (p:=⟨w.heap.size,9,none⟩) nl _)⟩
end
section
open Go Go.RowKit
attribute [local go_sem ↓] Go.wp_at_zero Go.wp_at_succ
theorem jL(p:Int)(w:World):Calls Tryz.prog 63 #[.int .i64 p] w fun e w'=>L0 w w' e p:=by
 have hb:=ra w (.cells #[.slice none 0 0,.slice none 0 0] 54);have vR:VHas _ w.heap.size 54 2 (lf [.slice none 0 0,.slice none 0 0]):=bH w [.slice none 0 0,.slice none 0 0] 54;rcases bq (dD p 1 5) with hin|hin
 rotate_left
 ·go_enter Tryz.func63,Tryz.ntmps63
  go_wp2_with fail
  generalize (w.alloc (.cells #[.slice none 0 0,.slice none 0 0] 54))=W at hb vR ⊢;refine (cP p 1 5 _).mono ?_;rintro e w1 ⟨rfl,hw1⟩;subst hw1;rw[hin]
  go_wp2_with (first|(with_reducible refine wB 54 (.tmp 2) (.tmp 11) w.heap.size [.slice none 0 0,.slice none 0 0] vR ?_;intro W9 hv9 hg9)|fail)
  have q0:=hv9.cell (j:=0) (by simp);have q1:=hv9.cell (j:=1) (by simp);simp[lf]at q0 q1;have hno:¬ (1<=p/\p<=5):=fun h=>by simp[dD]at hin;omega
  exact bodyPost_ret (v:=.tuple #[.agg #[.slice none 0 0,.slice none 0 0],.bool false]) (by simp[results,Tryz.results63,go_sem,q0,q1]) rfl (F4 hno (aV hb hg9 nl))
 have hpi:1<=p/\p<=5:=by simp[dD]at hin;omega
 obtain⟨K,hK⟩:∃ K,K=p.toNat:=⟨_,rfl⟩
 have HKK:Hid (K=p.toNat):=hK;have hK5:K<=5:=by omega
 clear hK;go_enter Tryz.func63,Tryz.ntmps63
 go_wp2_with fail
 generalize (w.alloc (.cells #[.slice none 0 0,.slice none 0 0] 54))=W at hb vR ⊢;refine (cP p 1 5 _).mono ?_;rintro e w1 ⟨rfl,hw1⟩;subst hw1;rw[hin];have hal0:=ra w1 (.cells #[.slice none 0 0,.slice none 0 0] 54);have vC:VHas (w1.alloc (.cells #[.slice none 0 0,.slice none 0 0] 54)) w1.heap.size 54 2 (lf [.slice none 0 0,.slice none 0 0]):=bH w1 [.slice none 0 0,.slice none 0 0] 54;have hbC:w.heap.size<w1.heap.size:=vR.lt;replace vR:=vR.next hal0;replace hb:=rt _ _ _ hb hal0;go_wp2;generalize (w1.alloc (.cells #[.slice none 0 0,.slice none 0 0] 54))=W at hb vR vC ⊢;generalize w1.heap.size=bC at vC hbC ⊢;clear hal0
 go_loopw [5,6,7] (fun x5 x6 x7 wr=>∃ (k:Nat) (ao:Option Addr) (cap:Nat),k<=K/\x5=.int .i64 (k:Int)/\GOwn wr w.heap.size 27 10 ao k cap (lf (mX (qE p k)))/\VHas wr w.heap.size 54 2 (lf [.slice none 0 0,.slice none 0 0])/\VHas wr bC 54 2 (lf [.slice ao k cap,.slice none 0 0])/\RB w wr) (fun x _ _ _=>K-(intOf x).toNat)
 case atStart=>exact⟨0,none,0,Nat.zero_le _,rfl,GOwn.nil _ _ _ _ _,vR,vC,hb⟩
 case round=>
  obtain⟨k,ao,cap,hk,rfl,hO,vR,vC,hb⟩:=hrel
  by_cases hlt:k<K
  ·have hltp:(k:Int)<p:=by have:=HKK.out;omega
   have hnw:uI k p=true:=by
    have:=HKK.out;simp[uI];omega
   have hw1:IntKind.i64.wrap ((k:Int)+1)=(k:Int)+1:=wi
   go_wp2_with fail
   refine (qT k p _).mono ?_;rintro e w1 ⟨rfl,hb1⟩;rw[hnw];simp only[if_true];obtain⟨nd,hnd⟩:∃ nd,nd=Z5 k p:=⟨_,rfl⟩
   have HND:Hid (nd=Z5 k p):=hnd;rw[show (Value.agg #[.int .i64 (k:Int),.int .i64 p,.int .i64 0,.int .i64 (-1),.slice none 0 0,.int .i64 1,.int .i64 0,.slice none 0 0,.slice none 0 0,.slice none 0 0])=aX nd aP by rw[hnd];rfl];clear hnd;replace vR:=vR.next hb1;replace vC:=vC.next hb1;replace hO:=hO.next hb1;replace hb:=rt _ _ _ hb hb1;have hal:=ra w1 (.cells (aJ nd aP).toArray 27);have vN:=aH w1 nd aP;replace vR:=vR.next hal;replace vC:=vC.next hal;replace hO:=hO.next hal;replace hb:=rt _ _ _ hb hal;have hal2:=ra (w1.alloc (.cells (aJ nd aP).toArray 27)) (.cells (aJ nd aP).toArray 27);have vL:=aH (w1.alloc (.cells (aJ nd aP).toArray 27)) nd aP;have y0:=vC.cell (j:=0) (by omega);simp[lf]at y0;obtain⟨c0,c1,c2,c3,c4,c5,c6,c7,c8,c9⟩:=cN vN;replace vC:=vC.next hal2;replace vR:=vR.next hal2;replace hO:=hO.next hal2;replace hb:=rt _ _ _ hb hal2;have hgr:GRow ((w1.alloc (.cells (aJ nd aP).toArray 27)).alloc (.cells (aJ nd aP).toArray 27)) (some ⟨(w1.alloc (.cells (aJ nd aP).toArray 27)).heap.size,0,none⟩) (1*10) (lf (aJ nd aP)):=nJ vL;have hon:∀ j,j<1*10->(lf (aJ nd aP) j).oneCell'=true:=fun j hj=>BZ ⟨nd,aP⟩ j (by omega)
   have hlen:k+1<=100000000:=by omega
   have hsz:=hb.size;clear hb1 hal hal2 vN vL
   go_wp2_with (first|(at_builtin;with_reducible refine gF rfl (.tmp 25) (.tmp 27) Tryz.elQ rfl 28 rfl w.heap.size _ ao k cap (by simp[go_sem]) hO (some ⟨(w1.alloc (.cells (aJ nd aP).toArray 27)).heap.size,0,none⟩) 1 1 (lf (aJ nd aP)) (by simp[go_sem]) hgr hon hlen hsz ?_;intro ao' cap' w2 hown hg;have hT:∀ x,(Value.slice ao k cap).ownBlock=some x->aG _ x 27:=fun x e=>hO.typed e;replace vC:=VHas.gr vC hg hT (by decide);replace vR:=VHas.gr vR hg hT (by decide);replace hb:=jO hb hg (fun x e=>(hO.at e).1);clear hg hT)|(with_reducible refine wC 52 (.tmp 29) (.tmp 28) bC 0 (.slice ao' (k+1) cap') vC ?_;intro W3 hW3)|fail)
   have hg3:=aC w2 bC 0 (.slice ao' (k+1) cap');have hT3:∀ x,some bC=some x->aG w2 x 54:=fun x e=>by cases e;exact vC.typed
   have vC3:=vC.set 0 (.slice ao' (k+1) cap');have hown3:=Z6 (q:=⟨nd,aP⟩) (fS p k) hown;rw[HND.out]at hown3;replace hown3:GOwn w2 w.heap.size 27 10 ao' (k+1) cap' (lf (mX (qE p (k+1)))):=hown3
   go_roundw
   case rel=>
    exact⟨k+1,ao',cap',by omega,by go_num,GOwn.gr hown3 hg3 hT3 (by decide),vR.grown hg3 (fun e=>by have:=oI e;omega),vC3.congr (fun j hj=>by
     have:j=0\/j=1:=by omega
     rcases this with rfl|rfl<;>simp[lf]),aV hb hg3 (by omega)⟩
   case measure=>simp[intOf];omega
  obtain rfl:k=K:=by omega
  have hge:¬ (k:Int)<p:=by have:=HKK.out;omega
  obtain⟨y0,y1⟩:=vC.c2;simp[lf]at y0 y1
  go_wp2_with (first|(with_reducible refine wB 54 (.tmp 2) (.tmp 30) w.heap.size [.slice ao k cap,.slice none 0 0] vR ?_;intro W9 hv9 hg9)|fail)
  have q0:=hv9.cell (j:=0) (by simp);have q1:=hv9.cell (j:=1) (by simp);simp[lf]at q0 q1;have hT9:∀ x,some w.heap.size=some x->aG wr x 54:=fun x e=>by cases e;exact vR.typed
  refine bodyPost_ret (v:=.tuple #[.agg #[.slice ao k cap,.slice none 0 0],.bool true]) (by simp[results,Tryz.results63,go_sem,q0,q1]) rfl ?_;have hkk:=HKK.out
  have e1:nK p=k:=by
   unfold nK
   split<;>omega
  have e2:nB p=true:=by
   simp only[nB,decide_eq_true_eq];omega
  unfold L0;rw[e1,e2];exact⟨ao,cap,rfl,GOwn.gr hO hg9 hT9 (by decide),aV hb hg9 nl⟩
structure ClV(w:World)(base:Nat)(l:List Nq)(q:List Mq)(ao:Option Addr)(cap:Nat)(eo:Option Addr)(ec:Nat):Prop where
 n:GOwn w base 27 10 ao l.length cap (lf (mX l))
 m:NetO w base eo ec q
 nl:∀ z∈l,NdO w base z.n z.s
theorem BS(i p:Int)(hp:1<=p/\p<=5)(hi:0<=i/\i<p):OkN (Z5 i p):=
 OkN.fol ⟨hp,hi,by show (0:Int)<=0/\(0:Int)<=100000;omega,.inl rfl,rfl,by show bM []<=0;simp[bM,dR],by show (0:Int)<=0/\(0:Int)<=(([]:List En).length:Int);simp⟩ rfl rfl rfl rfl
theorem BT(p:Nat)(hp:1<=p/\p<=5):ClP (qE p p) []:=
 ⟨by rw[fS];exact hp,fun i z hz=>by
  have hi:i<p:=by
   rcases Nat.lt_or_ge i p with q|q
   ·exact q
   ·rw[List.getElem?_eq_none (by rw[fS];exact q)]at hz;cases hz
  rw[M0 (p:Int) hi]at hz;obtain rfl:=oI hz;rw[fS]
  exact⟨BS _ _ (by omega) (by omega),rfl,rfl,TxL.nil⟩,by simp,fun z hz=>by cases hz⟩
theorem L4(w:World)(base:Nat)(p:Int):∀ k,∀ z∈qE p k,NdO w base z.n z.s
 | 0,z,hz=>by cases hz
 | k+1,z,hz=>by
  rcases List.mem_append.1 hz with h|h
  ·exact L4 w base p k z h
  ·rw[List.mem_singleton.1 h]
   exact L8 w base _ _ rfl rfl rfl rfl rfl rfl rfl rfl rfl rfl rfl rfl
structure DCl(w:World)(base c:Nat)(bo:Option Addr)(bn bc:Nat)(W:World):Prop where
 cur:CurAt W base c bo bn bc
 res:VHas W w.heap.size 54 2 (lf [.slice none 0 0,.slice none 0 0])
 gr:w.grownBy W (some c)
 lt:c<w.heap.size
section
variable {w:World} {base c:Nat} {bo:Option Addr} {bn bc:Nat} {W W':World}
theorem DCl.next(h:DCl w base c bo bn bc W)(hb:RB W W'):DCl w base c bo bn bc W':=⟨h.cur.next hb,vn h.res hb,h.gr.trans (eQ hb),h.lt⟩
theorem DCl.rd(h:DCl w base c bo bn bc W)(hC:CurAt W' base c bo bn bc)(hg:W.grownBy W' (some c)):DCl w base c bo bn bc W':=
 have hl:=h.lt
 ⟨hC,VHas.grown h.res hg (fun e=>by have:=oI e;omega),h.gr.trans hg,h.lt⟩
theorem DCl.bl(h:DCl w base c bo bn bc W)(hb:Below (w.heap.size+1) W W'):DCl w base c bo bn bc W':=
 have hl:=h.lt
 ⟨h.cur.keep hb (by omega),(by
  obtain⟨cs,h1,h2⟩:=h.res
  exact⟨cs,(hb.block _ (by omega)).trans h1,h2⟩),⟨hb.os.trans h.gr.os,hb.tape.trans h.gr.tape,hb.output.trans h.gr.output,Nat.le_trans h.gr.size hb.size,fun k hk hc=>(hb.block k (by omega)).trans (h.gr.block k hk hc)⟩,h.lt⟩
theorem DCl.put(h:DCl w base c bo bn bc W){x:Nat}(hg:W.grownBy W' (some x))(hx:w.heap.size<x):DCl w base c bo bn bc W':=
 have hl:=h.lt
 ⟨h.cur.grown hg (by have:=h.cur.ge;omega) (by omega),VHas.grown h.res hg (fun e=>by have:=oI e;omega),⟨hg.os.trans h.gr.os,hg.tape.trans h.gr.tape,hg.output.trans h.gr.output,Nat.le_trans h.gr.size hg.size,fun k hk hc=>(hg.block k (Nat.lt_of_lt_of_le hk h.gr.size) (fun e=>by have:=oI e;omega)).trans (h.gr.block k hk hc)⟩,h.lt⟩
end
def FH(W:World)(b B:Nat):Prop:=∃ l q ao cap eo ec,ClB W b B l q ao cap eo ec/\ClP l q
theorem zU{w1 W W':World}{b B p:Nat}{ao:Option Addr}{cap:Nat}{f:Nat->Value}(hp:1<=p/\p<=5)(hB:B<=w1.heap.size)(hg:GOwn W w1.heap.size 27 10 ao p cap (lf (mX (qE p p))))(hv:VHas W' b 54 2 (lf [.slice ao p cap,.slice none 0 0]))(hgr:W.grownBy W' (some b))(hT:aG W b 54):FH W' b B:=by
 have hn:GOwn W' B 27 10 ao p cap (lf (mX (qE p p))):=GOwn.from (GOwn.gr hg hgr (fun x e=>by cases e;exact hT) (by decide)) hB
 refine⟨qE p p,[],ao,cap,none,0,⟨?_,?_,NetO.nil _ _,L4 _ _ _ _⟩,BT p hp⟩
 ·rw[fS];exact hv
 ·rw[fS];exact hn
theorem DQ{p:Nat}(hp:1<=p/\p<=5):nK (p:Int)=p:=by
 unfold nK;rw[if_pos (by omega)];omega
theorem qN(base c:Nat)(bo:Option Addr)(bn bc:Nat)(w:World)(hC:CurAt w base c bo bn bc):Calls Tryz.prog 26 #[.pointer (some ⟨c,0,none⟩)] w fun e w'=>∃ l q ao cap eo ec,e=.returned (.agg #[.slice ao l.length cap,.slice eo q.length ec])/\ClV w' w.heap.size l q ao cap eo ec/\ClP l q/\CurAt w' base c bo bn bc/\w.grownBy w' (some c):=by
 have hcl:=hC.lt;have hal:=ra w (.cells #[.slice none 0 0,.slice none 0 0] 54);have hD:DCl w base c bo bn bc (w.alloc (.cells #[.slice none 0 0,.slice none 0 0] 54)):=⟨hC.next hal,bH w [.slice none 0 0,.slice none 0 0] 54,eQ hal,hcl⟩
 clear hal hC;go_enter Tryz.func26,Tryz.ntmps26;refine aW fun K0 hK0=>?_
 go_wp2;refine hK0.out _ _ ?_;clear hK0;generalize (w.alloc _)=W at hD ⊢;refine aW fun K0 hK0=>?_
 go_wp2_with fail
 refine (aI base c bo bn bc 3 (by omega) (by omega) _ hD.cur).mono ?_;rintro e w1 ⟨x,rfl,hx,hc9,hg9⟩;replace hD:=hD.rd hc9 hg9;clear hc9 hg9;have hw1:IntKind.i64.wrap (1+(x:Int))=1+(x:Int):=wi
 go_wp2_with fail
 refine (aI base c bo bn bc 2 (by omega) (by omega) _ hD.cur).mono ?_;rintro e w2 ⟨y,rfl,hy,hc9,hg9⟩;replace hD:=hD.rd hc9 hg9;clear hc9 hg9;obtain⟨p,hp,hp5⟩:∃ p:Nat,(1+(x:Int))+(y:Int)=(p:Int)/\(1<=p/\p<=5):=⟨1+x+y,by omega,by omega⟩
 have hw2:IntKind.i64.wrap (1+(x:Int)+(y:Int))=(p:Int):=by rw[hp,IntKind.wrap_i64];omega
 clear hp
 go_wp2_with fail
 refine (jL (p:Int) _).mono ?_;rintro e w3 ⟨ao,cap,rfl,hgn,hb3⟩;rw[DQ hp5]at hgn ⊢;have hs2:w.heap.size+1<=w2.heap.size:=hD.res.lt;replace hD:=hD.next hb3;have hal:=ra w3 (.cells #[.slice none 0 0,.slice none 0 0] 54);have vK:VHas (w3.alloc (.cells #[.slice none 0 0,.slice none 0 0] 54)) w3.heap.size 54 2 (lf [.slice none 0 0,.slice none 0 0]):=bH w3 [.slice none 0 0,.slice none 0 0] 54;have hs3:w.heap.size<w3.heap.size:=hD.res.lt;replace hD:=hD.next hal;replace hgn:=GOwn.next hgn hal;clear hal hb3 hw1 hw2
 go_wp2_with (first|((with_reducible refine wB 54 (.tmp 3) (.tmp 14) w3.heap.size [.slice ao p cap,.slice none 0 0] vK ?_);intro W9 hv9 hg9)|fail)
 have hA:FH W9 w3.heap.size (w.heap.size+1):=zU (f:=fun _=>undef) hp5 hs2 hgn hv9 hg9 vK.typed;replace hD:=hD.put hg9 hs3;generalize nB (p:Int)=isB;have hs3':w.heap.size+1<=w3.heap.size:=hs3;clear hv9 hg9 vK hgn hs2 hs3 hp5;generalize w3.heap.size=bk at hA hs3' ⊢;refine hK0.out _ _ ?_;clear hK0;refine wp_seq_k fun K1 hK1=>?_
 go_cut [] (fun wc=>DCl w base c bo bn bc wc/\FH wc bk (w.heap.size+1))
 case first=>
  go_wp2_with fail
  refine (dA base c bo bn bc 3 (by omega) (by omega) _ hD.cur).mono ?_;rintro e w4 ⟨bb,rfl,hc9,hg9⟩;obtain⟨l,q,ao2,cap2,eo,ec,hB,hP⟩:=hA;have hB4:=hB.cur hg9 hD.cur.typed;have hD4:=hD.rd hc9 hg9;clear hc9 hg9;cases bb
  ·go_wp2
   go_meet
   case rel=>exact⟨hD4,l,q,ao2,cap2,eo,ec,hB4,hP⟩
  ·go_wp2_with fail
   refine (jL 3 _).mono ?_;rintro e w5 ⟨ao,cap,rfl,hgn,hb3⟩;rw[show nK 3=3 from rfl]at hgn ⊢;have hs4:w.heap.size+1<=w4.heap.size:=hD4.res.lt;have hD5:=hD4.next hb3;have hB5:=hB4.next hb3;have vK:=hB5.x
   go_wp2_with (first|((with_reducible refine wB 54 (.tmp 3) (.tmp 20) bk [.slice ao 3 cap,.slice none 0 0] vK ?_);intro W9 hv9 hg9)|fail)
   go_meet
   case rel=>exact⟨hD5.put hg9 (by omega),zU (p:=3) (f:=fun _=>undef) (by omega) hs4 hgn hv9 hg9 vK.typed⟩
 case rest=>
  obtain⟨hD2,hA2⟩:=hcut;clear hD hA;refine hK1 _ _ ?_;clear hK1
  go_wp2_with fail
  refine (aI base c bo bn bc 50 (by omega) (by omega) _ hD2.cur).mono ?_;rintro e w4 ⟨x,rfl,hx,hc9,hg9⟩;obtain⟨l,q,ao2,cap2,eo,ec,hB,hP⟩:=hA2;have hB4:=hB.cur hg9 hD2.cur.typed;have hD4:=hD2.rd hc9 hg9;clear hc9 hg9 hB hD2
  go_wp2_with fail
  go_loopw [5] (fun x5 wr=>∃ k:Nat,k<=50/\x5=.int .i64 (k:Int)/\DCl w base c bo bn bc wr/\FH wr bk (w.heap.size+1)) (fun x _=>(intOf x).toNat)
  case atStart=>exact⟨x,by omega,rfl,hD4,l,q,ao2,cap2,eo,ec,hB4,hP⟩
  case round=>
   clear hD4 hB4 hP;obtain⟨k,hk,rfl,hD5,l,q,ao,cap,eo,ec,hB5,hP5⟩:=hrel;have c0:=VHas.cell hB5.x (j:=0) (by omega);have c1:=VHas.cell hB5.x (j:=1) (by omega);simp[lf]at c0 c1
   by_cases hk0:k=0
   ·subst hk0
    have hres:=hD5.res
    go_wp2_with (first|((with_reducible refine wB 54 (.tmp 2) (.tmp 32) w.heap.size [.slice ao l.length cap,.slice eo q.length ec] hres ?_);intro W9 hv9 hg9)|fail)
    clear c0 c1;have d0:=VHas.cell hv9 (j:=0) (by simp);have d1:=VHas.cell hv9 (j:=1) (by simp);simp[lf]at d0 d1;have hTc:∀ x,some w.heap.size=some x->aG wr x 54:=fun x e=>by cases e;exact hres.typed
    have hlt:=hD5.lt;have hgr:=hD5.gr;have hge:=hD5.cur.ge;exact bodyPost_ret (v:=.agg #[.slice ao l.length cap,.slice eo q.length ec]) (by simp[results,Tryz.results26,go_sem,d0,d1]) rfl ⟨l,q,ao,cap,eo,ec,rfl,⟨GOwn.from (GOwn.gr hB5.n hg9 hTc (by decide)) (by omega),(show NetO W9 w.heap.size eo ec q from ⟨GOwn.from (GOwn.gr hB5.m.o hg9 hTc (by decide)) (by omega),fun z hz=>OwE.from ((hB5.m.e z hz).gr hg9 hTc (by decide)) (by omega)⟩),fun z hz=>((hB5.nl z hz).gr hg9 hTc (by decide) (by decide)).from (by omega)⟩,hP5,hD5.cur.grown hg9 (by omega) (by omega),⟨hg9.os.trans hgr.os,hg9.tape.trans hgr.tape,hg9.output.trans hgr.output,Nat.le_trans hgr.size hg9.size,fun k hk hc=>(hg9.block k (Nat.lt_of_lt_of_le hk hgr.size) (fun e=>by have:=oI e;omega)).trans (hgr.block k hk hc)⟩⟩
   obtain⟨m,rfl⟩:∃ m,k=m+1:=⟨k-1,by omega⟩
   have hw1:IntKind.i64.wrap (((m+1:Nat):Int)-1)=(m:Int):=wi
   have hpos:(0:Int)<((m+1:Nat):Int):=by omega
   have hN200:=hP5.net;have hwm:IntKind.i64.wrap ((m:Int)+1-1)=(m:Int):=wi
   go_wp2_with fail
   clear c0 c1;refine (tW base c bo bn bc (w.heap.size+1) l ao cap q.length eo ec hP5.len hP5.net _ hD5.cur hB5.n).mono ?_;rintro e w5 ⟨K,N,I,T,rfl,hT,hc9,hg9⟩;have hB6:=hB5.cur hg9 hD5.cur.typed;have hD6:=hD5.rd hc9 hg9;clear hc9 hg9 hB5 hD5
   go_wp2_with fail
   refine (P3 bk (w.heap.size+1) l q ao cap eo ec K N I T hT _ (by have:=hD6.res.lt;omega) hs3' hB6 hP5).mono ?_;rintro e w6 ⟨⟨kk,rfl⟩,⟨l6,⟨q6,eo6,ec6,hB7,hP7⟩,_⟩,hbl⟩;have hD7:=hD6.bl hbl;clear hbl hB6 hD6 hP5;go_wp2
   go_roundw
   case rel=>exact⟨m,by omega,by go_num,hD7,l6,q6,ao,cap,eo6,ec6,hB7,hP7⟩
   case measure=>simp[intOf]
end
section
open Go
section
variable {P:Program} {ops:Array Oper} {Q:Exit->Act->World->Prop}
def LateOkR(P:Program)(ops:Array Oper)(a0:Act)(w0:World)(R:World->World->Prop)(Post:World->Prop)(Pr:Nat->Value->World->Prop)(ks:List Nat)(i:Nat)(o:Oper):Prop:=
 ∀ (ev:Operand->Value) (w:World) (v:Nat->Value),(R w0 w\/Post w)->EvOk ops a0 o v ev->(∀ j,j∈ks->aK o j=true->Pr j (v j) w)->∃ u w',(execOp ev o).run P w=.ok (.value u) w'/\R w w'/\Pr i u w'
def MidOkR(P:Program)(ops:Array Oper)(a0:Act)(w0:World)(R:World->World->Prop)(Rx:World->World->Prop)(Post:World->Prop)(Pr:Nat->Value->World->Prop)(i:Nat)(o:Oper):Prop:=
 ∀ (a:Act) (w:World) (v:Nat->Value) (Q:Exit->Act->World->Prop),R w0 w->EvOk ops a0 o v a.eval->(∀ j,j<ops.size->aK o j=true->Pr j (v j) w)->o.wp P a w (fun a' w'=>∃ u,a'=a.put o.dst u/\Rx w w'/\Post w'/\Pr i u w') Q
theorem MidOkR.val{a0:Act}{w0:World}{R:World->World->Prop}{Rx:World->World->Prop}{Post:World->Prop}{Pr:Nat->Value->World->Prop}{i:Nat}{o:Oper}
  (h:∀ (ev:Operand->Value) (w:World) (v:Nat->Value),R w0 w->EvOk ops a0 o v ev->(∀ j,j<ops.size->aK o j=true->Pr j (v j) w)->∃ u w',(execOp ev o).run P w=.ok (.value u) w'/\Rx w w'/\Post w'/\Pr i u w'):MidOkR P ops a0 w0 R Rx Post Pr i o:=by
 intro a w v Q hR E pr;obtain⟨u,w',hr,h1,h2,h3⟩:=h a.eval w v hR E pr;unfold Oper.wp;rw[hr];exact⟨u,rfl,h1,h2,h3⟩
theorem mY{id:Nat}{a0:Act}{w0:World}(hm:P.follows .mixedOrders=true)(hok:cE ops=true)(haw:dV ops=true)(R:World->World->Prop)(hR0:∀ w,R w w)(hRt:∀ u v w,R u v->R v w->R u w)(kx:Nat)(early keep:List Nat)(hmid:yB ops kx early keep=true)(hkx:Nat.blt kx (ops.size-1)=true)
  (Rx:World->World->Prop) (Post:World->Prop) (hPost:∀ w w',Post w->R w w'->Post w') (l:List (Value->World->Prop)) (hPr:gI R l) (hll:l.length=ops.size-1)
  (hkeep:∀ i,i∈keep->∀ v w w',cJ l i v w->Rx w w'->cJ l i v w')
  (hearly:∀ i,i∈early->∀ o,ops[i]?=some o->OpOk P ops a0 w0.drew R (cJ l) i o) (hlate:∀ i,i+1<ops.size->i≠kx->i∉early->∀ o,ops[i]?=some o->LateOkR P ops a0 w0.drew R Post (cJ l) (kx :: keep) i o)
  (hx:∀ o,ops[kx]?=some o->MidOkR P ops a0 w0.drew R Rx Post (cJ l) kx o)
  (o9:Oper) (ho9:ops[ops.size-1]?=some o9) (hg9:o9.guard=none) (hd9:o9.dst=none)
  (Fin:(Nat->Value)->World->Prop)
  (hstore:∀ (ev:Operand->Value) (w':World) (v:Nat->Value),Post w'->EvOk ops a0 o9 v ev->(∀ i,i∈kx :: keep->cJ l i (v i) w')->∃ w'',(execOp ev o9).run P w'=.ok .skip w''/\∀ v',(∀ i,i+1<ops.size->v' i=v i)->Fin v' w'')
  (hend:∀ v w'',Fin v w''->Q .normal (bF v 0 ops.toList a0) w''):(Code.region id ops true).wp P Q a0 w0:=by
 have hkx':kx<ops.size-1:=nb hkx;have h9:ops.size-1<ops.size:=(Array.getElem?_eq_some_iff.1 ho9).1;simp only[yB,Bool.and_eq_true,List.all_eq_true,List.mem_range,decide_eq_true_eq]at hmid;obtain⟨keepB,hmid⟩:=hmid
 have guardN:∀ (i:Nat) (o:Oper),ops[i]?=some o->o.guard=none:=fun i o ho=>by
  have hil:i<ops.size:=(Array.getElem?_eq_some_iff.1 ho).1
  by_cases hi9:i=ops.size-1
  ·rw[hi9,ho9]at ho
   cases ho;exact hg9
  ·have:=hmid i (by omega)
   rw[ho]at this;simp only[Bool.and_eq_true,Option.isNone_iff_eq_none]at this;exact this.1
 have lateIs:∀ (i:Nat) (o:Oper),ops[i]?=some o->i+1<ops.size->i≠kx->i∉early->i∈keep:=fun i o ho hi hne hE=>by
  have:=hmid i (by omega);rw[ho]at this;simp only[Bool.and_eq_true,Bool.or_eq_true,beq_iff_eq,hne,false_or]at this;have h2:=this.2;rw[if_neg (by simpa using hE)]at h2;simpa using h2
 have earlyIs:∀ i,i∈early->i<ops.size-1->i≠kx->i<kx/\∃ j p,i<j/\j<=kx/\(j=kx\/j∈early)/\ops[j]?=some p/\aY p i:=fun i hE hi hne=>by
  have hoi:ops[i]?=some ops[i]:=by simp
  have:=hmid i hi;rw[hoi]at this;simp only[Bool.and_eq_true,Bool.or_eq_true,beq_iff_eq,hne,false_or]at this;have h2:=this.2;rw[if_pos (by simpa using hE)]at h2;simp only[Bool.and_eq_true,decide_eq_true_eq,List.any_eq_true,List.mem_range,Bool.or_eq_true,beq_iff_eq]at h2;obtain⟨h3,j,hj,hij,hjk,hwj⟩:=h2;refine⟨h3,j,?_⟩;cases hp:ops[j]? with
  | none=>rw[hp]at hwj;cases hwj
  | some p=>
   rw[hp]at hwj;exact⟨p,hij,by omega,hjk.imp (fun q=>q) (by simp),rfl,aQ hwj⟩
 have earlyD:∀ (D:Nat->Bool),(∀ i o j,ops[i]?=some o->D i=true->aY o j->D j=true)->D kx=true->∀ n i,i+n=kx->i∈early->i<ops.size-1->D i=true:=by
  intro D hC hDx n
  induction n using Nat.strongRecOn with
  | ind n ih=>
   intro i hin hE hi
   by_cases hne:i=kx
   ·rw[hne];exact hDx
   obtain⟨_,j,p,hij,hjk,hjE,hp,hwj⟩:=earlyIs i hE hi hne;refine hC j p i hp ?_ hwj;rcases hjE with rfl|hjE
   ·exact hDx
   ·exact ih (kx-j) (by omega) j (by omega) hjE (by omega)
 -- the last one is awaited by none, and waits for all, step by step
 have allD:∀ (D:Nat->Bool),(∀ i o j,ops[i]?=some o->D i=true->aY o j->D j=true)->(∀ j,aY o9 j->D j=true)->∀ n j,j+1+n=ops.size-1->D j=true:=by
  intro D hC h9w n
  induction n using Nat.strongRecOn with
  | ind n ih=>
   intro j hj;obtain⟨i,o,ho,hji,hwj⟩:=fD haw (j:=j) (by omega);have hil:i<ops.size:=(Array.getElem?_eq_some_iff.1 ho).1
   by_cases hi9:i=ops.size-1
   ·rw[hi9,ho9]at ho
    cases ho;exact h9w j hwj
   ·exact hC i o j ho (ih (ops.size-1-1-i) (by omega) i (by omega)) hwj
 let Inv:(Nat->Bool)->(Nat->Value)->World->Prop:=fun D v w=>
  (∀ i o j,ops[i]?=some o->D i=true->aY o j->D j=true) ∧
  (if D (ops.size-1)=true then Fin v w else if D kx=true then Post w/\∀ i,i∈kx :: keep->D i=true->cJ l i (v i) w else R w0.drew w/\∀ i,i+1<ops.size->D i=true->cJ l i (v i) w)
 refine jP hm hok Inv ⟨fun _ _ _ _ h=>(Bool.noConfusion h),?_⟩ ?_ ?_
 ·simp only[Bool.false_eq_true,if_false]
  exact⟨hR0 _,fun _ _ h=>h.elim⟩
 ·intro i o ho a D v w hDi hDw hI hE
  obtain⟨hC,hI⟩:=hI;have hil:i<ops.size:=(Array.getElem?_eq_some_iff.1 ho).1;rw[if_pos (by unfold Region.wanted;rw[guardN i o ho])]
  have hC':∀ i' o' j,ops[i']?=some o'->(if i'=i then true else D i')=true->aY o' j->(if j=i then true else D j)=true:=fun i' o' j ho' hd hw=>by
   by_cases hji:j=i
   ·simp[hji]
   ·simp only[hji,if_false]
    by_cases hii:i'=i
    ·subst hii
     rw[ho]at ho';cases ho';exact hDw j hw
    ·simp only[hii,if_false]at hd
     exact hC i' o' j ho' hd hw
  have hnl:i≠ops.size-1->D (ops.size-1)=false:=fun hne=>by
   rcases bq (D (ops.size-1)) with q|q
   ·exfalso
    have:=allD D hC (fun j hj=>hC _ _ j ho9 q hj) (ops.size-1-1-i) i (by omega);rw[hDi]at this;cases this
   ·exact q
  by_cases hi9:i=ops.size-1
  ·have ho':o=o9:=by rw[hi9,ho9]at ho;exact (oI ho).symm
   subst ho';have hall:=allD D hC hDw;have hDx:D kx=true:=hall (ops.size-1-1-kx) kx (by omega);rw[if_neg (by rw[<-hi9,hDi];simp),if_pos hDx]at hI
   obtain⟨w'',hr,hF⟩:=hstore a.eval w v hI.1 hE (fun k hk=>hI.2 k hk (by
    by_cases hk9:k+1<ops.size
    ·exact hall (ops.size-1-1-k) k (by omega)
    ·exfalso
     rcases List.mem_cons.1 hk with rfl|hk
     ·omega
     ·exact absurd (keepB k hk) hk9))
   unfold Oper.wp;rw[hr];simp only[Oper.upon,hd9];refine⟨undef,by simp[Act.put],hC',?_⟩;rw[if_pos (by simp[hi9])];exact hF _ (fun k hk=>by rw[if_neg (by omega)])
  ·have hD9:=hnl hi9
   have hD9':(if ops.size-1=i then true else D (ops.size-1))=false:=by rw[if_neg (fun q=>hi9 q.symm),hD9]
   rw[if_neg (by rw[hD9];simp)]at hI
   by_cases hix:i=kx
   ·subst hix
    rw[if_neg (by rw[hDi];simp)]at hI;refine Oper.wp_mono ?_ (hx o ho a w v Q hI.1 hE (fun j hj hw=>hI.2 j (by have:=(bO hok ho).1 j (aQ hw);omega) (hDw j (aQ hw))));rintro a' w' ⟨u,e,h1,h2,h3⟩;refine⟨u,e,hC',?_⟩;dsimp only;rw[if_neg (by rw[hD9'];simp),if_pos (by simp)];refine⟨h2,fun k hk hdk=>?_⟩
    by_cases hki:k=i
    ·subst hki;simp only[if_true];exact h3
    ·simp only[hki,if_false]at hdk ⊢
     rcases List.mem_cons.1 hk with q|hk
     ·exact absurd q hki
     ·have hk1:k+1<ops.size:=keepB k hk
      exact hkeep k hk _ _ _ (hI.2 k hk1 hdk) h1
   ·have hxe:(if kx=i then true else D kx)=D kx:=if_neg (fun q=>hix q.symm)
    by_cases hE':i∈early
    ·have hDx:D kx=false:=by
      rcases bq (D kx) with q|q
      ·exfalso
       have h1:=(earlyIs i hE' (by omega) hix).1;have:=earlyD D hC q (kx-i) i (by omega) hE' (by omega);rw[hDi]at this;cases this
      ·exact q
     rw[if_neg (by rw[hDx];simp)]at hI
     have hO:=hearly i hE' o ho a w v Q hI.1 (fun j p d hj hd hlt hwj=>hE.at_ j d (by rw[hj];exact hd) (oH.2 hwj) hlt) (fun j hj hwj=>hI.2 j (by have:=(bO hok ho).1 j hwj;omega) (hDw j hwj)) (fun d hno=>by
      have:iN ops d=true:=by
       unfold iN;rw[Array.all_eq_true'];intro p hp;obtain⟨j,hj⟩:=Array.mem_iff_getElem?.1 hp;simpa using hno j p hj
      exact hE.old d this)
     rw[if_pos (by unfold Region.wanted;rw[guardN i o ho])]at hO;refine Oper.wp_mono ?_ hO;rintro a' w' ⟨u,e,h1,h2⟩;refine⟨u,e,hC',?_⟩;dsimp only;rw[if_neg (by rw[hD9'];simp),if_neg (by rw[hxe,hDx];simp)];refine⟨hRt _ _ _ hI.1 h1,fun k hk hdk=>?_⟩
     by_cases hki:k=i
     ·subst hki;simp only[if_true];exact h2
     ·simp only[hki,if_false]at hdk ⊢
      exact cC hPr k _ _ _ (hI.2 k hk hdk) h1
    ·have hkp:=lateIs i o ho (by omega) hix hE'
     have hpr:∀ j,j∈kx :: keep->aK o j=true->cJ l j (v j) w:=fun j hj hw=>by
      have hw':=aQ hw;have hd:=hDw j hw'
      split at hI
      ·exact hI.2 j hj hd
      ·exact hI.2 j (by have:=(bO hok ho).1 j hw';omega) hd
     obtain⟨u,w',hr,h1,h2⟩:=hlate i (by omega) hix hE' o ho a.eval w v (by
      split at hI
      ·exact .inr hI.1
      ·exact .inl hI.1) hE hpr
     unfold Oper.wp;rw[hr];refine⟨u,rfl,hC',?_⟩;dsimp only;rw[if_neg (by rw[hD9'];simp)]
     split at hI
     ·next hDx=>
      rw[if_pos (by rw[hxe];exact hDx)];refine⟨hPost _ _ hI.1 h1,fun k hk hdk=>?_⟩
      by_cases hki:k=i
      ·subst hki;simp only[if_true];exact h2
      ·simp only[hki,if_false]at hdk ⊢
       exact cC hPr k _ _ _ (hI.2 k hk hdk) h1
     ·next hDx=>
      rw[if_neg (by rw[hxe];exact hDx)];refine⟨hRt _ _ _ hI.1 h1,fun k hk hdk=>?_⟩
      by_cases hki:k=i
      ·subst hki;simp only[if_true];exact h2
      ·simp only[hki,if_false]at hdk ⊢
       exact cC hPr k _ _ _ (hI.2 k hk hdk) h1
 ·intro D v w hall hI
  obtain⟨_,hI⟩:=hI;rw[if_pos (hall _ h9)]at hI;exact hend v w hI
theorem LateOkR.get{a0:Act}{w0:World}{R:World->World->Prop}{Post:World->Prop}{Pr:Nat->Value->World->Prop}{ks:List Nat}{i:Nat}{o:Oper}(hR:∀ w,R w w)(u:Value)(hp:∀ w,Pr i u w)
  (h:∀ (ev:Operand->Value) (w:World) (v:Nat->Value),(R w0 w\/Post w)->EvOk ops a0 o v ev->(∀ j,j∈ks->aK o j=true->Pr j (v j) w)->(execOp ev o).run P w=.ok (.value u) w):LateOkR P ops a0 w0 R Post Pr ks i o:=
 fun ev w v hR' E pr=>⟨u,w,h ev w v hR' E pr,hR w,hp w⟩
end
end
section
open Go.RowKit
attribute [local go_sem ↓] Go.wp_at_zero Go.wp_at_succ
theorem tQ{w w':World}{base:Nat}{e:TypeId}{size x:Nat}{v:Value}{k:Nat}{xs:List Value}(h:w.ownsRow base e size v k xs)(hg:w.grownBy w' (some x))(hx:x<base):w'.ownsRow base e size v k xs:=by
 obtain⟨hl,ho⟩:=h;refine⟨hl,?_⟩;rcases ho with h|⟨g,cap,cur,e,hb,hblk,h1,h2,h3,h4⟩
 ·exact .inl h
 ·exact .inr ⟨g,cap,cur,e,hb,by rw[hg.block g (Array.getElem?_eq_some_iff.1 hblk).1 (by simp;omega)];exact hblk,h1,h2,h3,h4⟩
theorem NOwnE.from'{w:World}{base base' k lc:Nat}{lo:Option Addr}(h:NOwnE w base lo k lc)(hb':base'<=base):NOwnE w base' lo k lc:=by
 obtain⟨T,X,hX,⟨hl,ho⟩,hg0⟩:=h;refine⟨T,X,hX,⟨hl,?_⟩,hg0⟩;rcases ho with h|⟨g,cap,cur,e,hb,hblk,h1,h2,h3,h4⟩
 ·exact .inl h
 ·exact .inr ⟨g,cap,cur,e,by omega,hblk,h1,h2,h3,h4⟩
theorem nF(base c:Nat)(ao:Option Addr)(n cap:Nat)(w:World)(hC:CurAt w base c ao n cap):
  Calls Tryz.prog 67 #[.pointer (some ⟨c,0,none⟩)] w fun e w'=>∃ (lo:Option Addr) (k lc:Nat),e=.returned (.slice lo k lc)/\k<=201/\NOwnE w' w.heap.size lo k lc/\CurAt w' base c ao n cap/\w.grownBy w' (some c):=by
 have hcl:=hC.lt;go_enter Tryz.func67,Tryz.ntmps67
 go_wp2_with fail
 refine (B2 base c ao n cap _ hC).mono ?_;rintro e w1 ⟨lo,k,lc,rfl,hk,hO1,hC1,hg1⟩
 go_wp2_with fail
 refine (dA base c ao n cap 10 (by omega) (by omega) _ hC1).mono ?_;rintro e w2 ⟨b,rfl,hC2,hg2⟩;have hO2:=hO1.grown hg2 hcl;have hgr2:=hg1.trans hg2;cases b
 ·go_wp2
  go_ret;exact⟨lo,k,lc,rfl,by omega,hO2,hC2,hgr2⟩
 go_wp2_with fail
 refine (aI base c ao n cap 3 (by omega) (by omega) _ hC2).mono ?_;rintro e w3 ⟨x,rfl,hx,hC3,hg3⟩;obtain⟨T,X,hX,hown,g,rfl⟩:=hO2.grown hg3 hcl;have hgr3:=hgr2.trans hg3;have hz3:=hgr3.size;clear hO1 hO2 hC1 hC2 hg1 hg2 hg3;have hcase:x=0\/x=1\/x=2:=by omega
 have hal:∀ o,Below w3.heap.size w3 (w3.alloc o):=fun o=>(Below.refl _ _).alloc nl o
 rcases hcase with rfl|rfl|rfl
 ·go_wp2_with fail
  refine (aI base c ao n cap 5 (by omega) (by omega) _ (hC3.next (hal _))).mono ?_;rintro e w4 ⟨x,rfl,hx,hC4,hg4⟩;have hb4:=hg4.block w3.heap.size (by simp) (by simp;omega);rw[Go.Deep.blk_alloc_new]at hb4;have hgr4:w.grownBy w4 (some c):=(hgr3.trans (eQ (hal _))).trans hg4;have hx':x<5:=by omega
  obtain⟨E,hE⟩:∃ E:Int,w4.cell? ⟨w3.heap.size,x,none⟩=some (.int .i64 E):=by
   have hc:x=0\/x=1\/x=2\/x=3\/x=4:=by omega
   rcases hc with rfl|rfl|rfl|rfl|rfl<;>simp only[World.cell?,hb4]<;>exact⟨_,rfl⟩
  have hown4:=(tQ (iE hown _) hg4 hcl)
  have hz4:=hgr4.size;have hx9:(x:Int)<5:=by omega
  clear hb4 hg4 hown hC3
  go_wp2_with (at_builtin;refine fC rfl _ _ rfl w.heap.size g k lc (bT T X k) rfl (iE hown4 _) (some ⟨w4.heap.size,0,none⟩) 1 1 (fun _=>_) (fun _=>_) rfl (nP w4 _ _) (by omega) (by simp;omega) ?_;intro g' cap' w5 hown' hb5)
  have hb45:Below w.heap.size w4 w5:=((Below.refl w.heap.size w4).alloc hz4 _).trans hb5;have hC5:CurAt w5 base c ao n cap:=hC4.keep hb45 hcl;have hO5:=NOwnE.add hX (by decide) hown';have hgr5:=rT hgr4 hb45 nl;clear hown4 hown' hC4 hb5;go_wp2;go_ret;exact⟨_,_,_,rfl,by omega,hO5,hC5,hgr5⟩
 ·go_wp2_with fail
  refine (aI base c ao n cap 4 (by omega) (by omega) _ (hC3.next (hal _))).mono ?_;rintro e w4 ⟨x,rfl,hx,hC4,hg4⟩;have hb4:=hg4.block w3.heap.size (by simp) (by simp;omega);rw[Go.Deep.blk_alloc_new]at hb4;have hgr4:w.grownBy w4 (some c):=(hgr3.trans (eQ (hal _))).trans hg4;have hx':x<4:=by omega
  obtain⟨E,hE0,hE⟩:∃ E:ByteArray,E.size<=100/\w4.cell? ⟨w3.heap.size,x,none⟩=some (.string E):=by
   have hc:x=0\/x=1\/x=2\/x=3:=by omega
   rcases hc with rfl|rfl|rfl|rfl<;>simp only[World.cell?,hb4]<;>exact⟨_,by decide,rfl⟩
  have hown4:=(tQ (iE hown _) hg4 hcl)
  have hz4:=hgr4.size;have hx9:(x:Int)<4:=by omega
  clear hb4 hg4 hown hC3
  go_wp2_with (at_builtin;refine fC rfl _ _ rfl w.heap.size g k lc (bT T X k) rfl (iE hown4 _) (some ⟨w4.heap.size,0,none⟩) 1 1 (fun _=>_) (fun _=>_) rfl (nP w4 _ _) (by omega) (by simp;omega) ?_;intro g' cap' w5 hown' hb5)
  have hb45:Below w.heap.size w4 w5:=((Below.refl w.heap.size w4).alloc hz4 _).trans hb5;have hC5:CurAt w5 base c ao n cap:=hC4.keep hb45 hcl;have hO5:=NOwnE.add hX hE0 hown';have hgr5:=rT hgr4 hb45 nl;clear hown4 hown' hC4 hb5;go_wp2;go_ret;exact⟨_,_,_,rfl,by omega,hO5,hC5,hgr5⟩
 ·have hO3:NOwnE (w3.alloc (.cells #[] 47)) w.heap.size (some ⟨w3.heap.size,0,none⟩) 0 0:=(NOwnE.new w3).from' hz3
  have hC3':=hC3.next (hal (.cells #[] 47));have hgr3':w.grownBy (w3.alloc (.cells #[] 47)) (some c):=hgr3.trans (eQ (hal _));clear hown hC3 hX;go_wp2
  go_loopw [3,4] (fun a q wr=>∃ (lo:Option Addr) (k lc:Nat),a=.slice lo k lc/\q=.int .i64 (k:Int)/\k<=201/\NOwnE wr w.heap.size lo k lc/\CurAt wr base c ao n cap/\w.grownBy wr (some c)) (fun _ q _=>300-(intOf q).toNat)
  case atStart=>exact⟨_,0,0,rfl,rfl,by omega,hO3,hC3',hgr3'⟩
  case round=>
   obtain⟨lo,k,lc,rfl,rfl,hk9,hO,hCr,hgr⟩:=hrel
   go_wp2_with fail
   refine (aI base c ao n cap 2 (by omega) (by omega) _ hCr).mono ?_;rintro e w4 ⟨y,rfl,hy,hC4,hg4⟩;have hO4:=hO.grown hg4 hcl;have hgr4:=hgr.trans hg4;have hz4:=hgr4.size;have hyw:IntKind.i64.wrap (200+(y:Int))=200+(y:Int):=wi
   by_cases hlt:(k:Int)<200+(y:Int)
   rotate_left
   ·go_wp2
    go_ret;exact⟨lo,k,lc,rfl,hk9,hO4,hC4,hgr4⟩
   obtain⟨T,X,hX,hown,g,rfl⟩:=hO4;clear hO hCr hg4 hgr;have hkw:IntKind.i64.wrap ((k:Int)+1)=(k:Int)+1:=wi
   go_wp2_with (at_builtin;refine fC rfl _ _ rfl w.heap.size g k lc (bT T X k) rfl (iE hown _) (some ⟨w4.heap.size,0,none⟩) 1 1 (fun _=>_) (fun _=>_) rfl (nP w4 _ _) (by omega) (by simp;omega) ?_;intro g' cap' w5 hown' hb5)
   have hb45:Below w.heap.size w4 w5:=((Below.refl w.heap.size w4).alloc hz4 _).trans hb5;have hC5:CurAt w5 base c ao n cap:=hC4.keep hb45 hcl;have hO5:=NOwnE.add hX (by decide) hown';have hgr5:=rT hgr4 hb45 nl;clear hown hown' hC4 hb5;go_wp2
   go_roundw
   case rel=>exact⟨_,k+1,_,rfl,by go_num,by omega,hO5,hC5,hgr5⟩
   case measure=>simp[intOf];omega
end
end Go.Proofs.YtbabakgjkloabaaGreatDoor
