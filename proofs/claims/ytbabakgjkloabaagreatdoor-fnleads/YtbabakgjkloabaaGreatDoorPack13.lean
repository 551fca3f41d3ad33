/-
  Helpers: Sn3, Rep, MrgP, FitA, ErrAs, MrgI, FitI, BAn, EqN, Ms7, Wpl, Ms8, Nd6, Ms9.
-/
import Derived.Test.YtbabakgjkloabaaGreatDoorPack2
import Derived.Test.YtbabakgjkloabaaGreatDoorPack8
import Derived.Test.YtbabakgjkloabaaGreatDoorPack1
import Derived.Test.YtbabakgjkloabaaGreatDoorPack9
import Derived.Test.YtbabakgjkloabaaGreatDoorPack12
import Derived.Test.YtbabakgjkloabaaGreatDoorPack10
import Derived.Test.YtbabakgjkloabaaGreatDoorShelfB
import Derived.Laws.CopyOwn
import Derived.Test.YtbabakgjkloabaaGreatDoorPack7
import Derived.Test.YtbabakgjkloabaaGreatDoorPack6
import Derived.Test.YtbabakgjkloabaaGreatDoorRows
import Derived.Test.YtbabakgjkloabaaGreatDoorPack11
set_option linter.unusedVariables false
set_option linter.unusedSimpArgs false
namespace Go.Proofs.YtbabakgjkloabaaGreatDoor
section
open Go Go.RowKit
attribute [local go_sem ↓] Go.wp_at_zero Go.wp_at_succ
theorem gr_of_rb {w w':World} {b:Option Nat} (h:RB w w'):w.grownBy w' b:=⟨h.os,h.tape,h.output,h.size,fun k hk _=>h.block k hk⟩
def acQ (n:Nd):Nd:=⟨n.id,n.peers,n.term,n.vote,n.log,n.role,agrN n,n.votes,n.next,n.mat⟩
theorem cntI_take (i:Int) (l:List Int) (p:Nat) (h:p<l.length):cntI i (l.take (p+1))=cntI i (l.take p)+(if i<=iOf l p then 1 else 0):=by
 have e:iOf l p=l[p]:=by simp[iOf,h]
 rw[e,cntI,cntI,List.take_succ_eq_append_getElem h,List.countP_append]
 by_cases q:i<=l[p]<;>simp[q]
theorem acQ_same {n:Nd} (h:agrN n=n.commit):acQ n=n:=by
 cases n;simp only[acQ] at *
 rw[h]
set_option maxRecDepth 100000 in
set_option maxHeartbeats 8000000 in
theorem specCommit_any (n:Nd) (s:NdS) (hz:NdZ n s) (b:Nat) (hc:0<=n.commit) (hp:1<=n.peers/\n.peers<=5) (hml:(n.mat.length:Int)=n.peers) (w:World) (vB:NdB w b n s) (hM:NdM w n s):Calls Tryz.prog 62 #[.pointer (some ⟨b,0,none⟩)] w fun e w'=>e=.returned (.tuple #[])/\NdB w' b (acQ n) s/\w.grownBy w' (some b):=by
 have hzl:=hz.l;have hzm:=hz.m;clear hz;obtain⟨lo,lc,vo,vc,no,nc,mo,mc⟩:=s;obtain⟨mb,mq,e,_,hclm⟩:=hM.m (fun h=>by have:=ilc_len n.mat;rw[h]at this;simp at this;omega);simp only at e;subst e;have HV:Hid (∀ j,j<n.mat.length->w.cell? ⟨mb,mq+j,none⟩=some (.int .i64 (iOf n.mat j))):=fun j hj=>hclm _ _ (ilc_at hj)
 replace hml:Hid ((n.mat.length:Int)=n.peers):=hml;clear hclm;obtain⟨c0,c1,c2,c3,c4,c5,c6,c7,c8,c9⟩:=cN vB;go_enter Tryz.func62,Tryz.ntmps62;go_wp2;clear c0 c1 c2 c3 c4 c5 c6 c7 c8 c9
 go_loopw [2,3,4] (fun x2 x3 x4 wr=>∃ m:Nat,m<=n.log.length/\x2=.int .i64 (m:Int)/\agrN n=agr n m/\RB w wr) (fun x _ _ _=>(intOf x).toNat)
 case atStart=>exact⟨n.log.length,Nat.le_refl _,rfl,rfl,RB.refl _⟩
 case round=>
  obtain⟨m,hm,rfl,hq,hRW⟩:=hrel;have vS:NdB wr b n ⟨lo,lc,vo,vc,no,nc,some ⟨mb,mq,none⟩,mc⟩:=VHas.next vB hRW;obtain⟨c0,c1,c2,c3,c4,c5,c6,c7,c8,c9⟩:=cN vS
  by_cases hlow:(m:Int)<=n.commit
  ·rw[agr_low n hlow]at hq
   have hlow':¬ n.commit<(m:Int):=by omega
   have hsame:=acQ_same hq;have HS:Hid (acQ n=n):=hsame;clear hsame hq;go_wp2;simp[bodyPost,results,Tryz.results62,go_sem];rw[HS.out];exact⟨vS,gr_of_rb hRW⟩
  obtain⟨k,rfl⟩:∃ k,m=k+1:=⟨m-1,by omega⟩
  have hlow':n.commit<(k:Int)+1:=by omega
  have ek:((k+1:Nat):Int)=(k:Int)+1:=by omega
  rw[ek];clear hlow;have hq:Hid (agrN n=agr n (k+1)):=hq;go_wp2;clear c0 c1 c2 c3 c4 c5 c6 c7 c8 c9
  go_loopw [3,4] (fun x3 x4 wr=>∃ p:Nat,p<=n.mat.length/\x4=.int .i64 (p:Int)/\x3=.int .i64 ((cntI ((k:Int)+1) (n.mat.take p):Nat):Int)/\RB w wr) (fun _ x _=>n.mat.length-(intOf x).toNat)
  case atStart=>exact⟨0,Nat.zero_le _,rfl,rfl,hRW⟩
  case round=>
   obtain⟨p,hpl,rfl,rfl,hR2⟩:=hrel;have vS:NdB wr b n ⟨lo,lc,vo,vc,no,nc,some ⟨mb,mq,none⟩,mc⟩:=VHas.next vB hR2;obtain⟨c0,c1,c2,c3,c4,c5,c6,c7,c8,c9⟩:=cN vS
   by_cases hlt:p<n.mat.length
   ·have hlt1:(p:Int)<n.peers:=by have:=hml.out;omega
    have hltm:(p:Int)<(n.mat.length:Int):=by omega
    have cv:=keep_cell hR2 nl (HV.out p hlt);have hct:=cntI_take ((k:Int)+1) n.mat p hlt;have hcb:cntI ((k:Int)+1) (n.mat.take p)<=1048576:=Nat.le_trans (List.countP_le_length ..) (by simp;omega);generalize cntI ((k:Int)+1) (n.mat.take p)=c at hct hcb ⊢;generalize iOf n.mat p=x at cv hct;have hwc:IntKind.i64.wrap ((c:Int)+1)=(c:Int)+1:=by rw[IntKind.wrap_i64];omega
    have hwp:IntKind.i64.wrap ((p:Int)+1)=(p:Int)+1:=by rw[IntKind.wrap_i64];omega
    by_cases hx:(k:Int)+1<=x
    ·rw[if_pos hx]at hct
     have hct:Hid _:=hct;go_wp2
     go_roundw
     case rel=>exact⟨p+1,by omega,by go_num,by rw[hct.out];go_num,hR2⟩
     case measure=>simp[intOf];omega
    ·rw[if_neg hx]at hct
     have hct:Hid _:=hct;go_wp2
     go_roundw
     case rel=>exact⟨p+1,by omega,by go_num,by rw[hct.out];go_num,hR2⟩
     case measure=>simp[intOf];omega
   obtain rfl:p=n.mat.length:=by omega
   have hge:¬ ((n.mat.length:Int)<n.peers):=by have:=hml.out;omega
   rw[List.take_length];obtain⟨cnt,hcnt⟩:∃ c,c=cntI ((k:Int)+1) n.mat:=⟨_,rfl⟩
   have hcl:cnt<=1048576:=by rw[hcnt];exact Nat.le_trans (List.countP_le_length ..) hzm
   rw[<-hcnt];replace hcnt:Hid (cnt=cntI ((k:Int)+1) n.mat):=hcnt
   go_wp2_with fail
   clear c0 c1 c2 c3 c4 c5 c6 c7 c8 c9 hge;have hM2:=(hM.next hR2).l (fun h=>by have:=elc_len n.log;rw[h]at this;simp at this;omega);obtain⟨g,q,e,_,hcl2⟩:=hM2;simp only at e;subst e;have hrow:=hcl2 _ _ (elc_at (l:=n.log) (k:=k) (by omega)).1;have hlt2:(k:Int)<(n.log.length:Int):=by omega
   have hk0:(0:Int)<=(k:Int):=by omega
   have htn:(k:Int).toNat=k:=by omega
   have hwk:IntKind.i64.wrap (k:Int)=(k:Int):=by rw[IntKind.wrap_i64];omega
   clear hcl2 hM vB HV;have hd:RB wr wr.drew:=(Below.refl _ _).drew;replace hR2:=RB.trans _ _ _ hR2 hd;replace vS:NdB wr.drew b n ⟨some ⟨g,q,none⟩,lc,vo,vc,no,nc,some ⟨mb,mq,none⟩,mc⟩:=VHas.next vS hd;replace hrow:=keep_cell hd nl hrow;clear hd;have hw38:IntKind.i64.wrap (2*(cnt:Int))=(2*(cnt:Int)):=by rw[IntKind.wrap_i64];omega
   obtain⟨b43,qb43⟩:∃ b:Bool,b=(decide (n.peers<(2*(cnt:Int)))):=⟨_,rfl⟩
   obtain⟨c7t,hc7t⟩:∃ c:Bool,c=(true&&((b43)==true)):=⟨_,rfl⟩
   have hw50:IntKind.i64.wrap (((k:Int)+1)-1)=(((k:Int)+1)-1):=by rw[IntKind.wrap_i64];omega
   obtain⟨b58,qb58⟩:∃ b:Bool,b=(((tOf n.log k)==n.term)):=⟨_,rfl⟩
   obtain⟨b59,qb59⟩:∃ b:Bool,b=((b43&&b58)):=⟨_,rfl⟩
   refine region_all (by kernel_rfl) (by kernel_rfl) RB RB.refl RB.trans
    [isV (.int .i64 (cnt:Int)),isV (.int .i64 (2*(cnt:Int))),isV (.pointer (some ⟨b,0,none⟩)),isV (.pointer (some ⟨b,0,none⟩)),isV (.pointer (some ⟨b,1,none⟩)),isV (.int .i64 n.peers),isV (.bool b43),isV (.bool b43),isV (gv c7t (.pointer (some ⟨b,0,none⟩))),isV (gv c7t (.pointer (some ⟨b,0,none⟩))),isV (gv c7t (.pointer (some ⟨b,4,none⟩))),isV (gv c7t (.slice (some ⟨g,q,none⟩) n.log.length lc)),isV (gv c7t (.int .i64 ((k:Int)+1))),isV (gv c7t (.int .i64 (((k:Int)+1)-1))),isV (gv c7t (.pointer (some ⟨g,q+k*2,none⟩))),isV (gv c7t (.pointer (some ⟨g,q+k*2,none⟩))),isV (gv c7t (.int .i64 (tOf n.log k))),isV (gv c7t (.pointer (some ⟨b,0,none⟩))),isV (gv c7t (.pointer (some ⟨b,0,none⟩))),isV (gv c7t (.pointer (some ⟨b,2,none⟩))),isV (gv c7t (.int .i64 n.term)),isV (gv c7t (.bool b58)),isV (.bool b59)]
    ⟨isV.rb,isV.rb,isV.rb,isV.rb,isV.rb,isV.rb,isV.rb,isV.rb,isV.rb,isV.rb,isV.rb,isV.rb,isV.rb,isV.rb,isV.rb,isV.rb,isV.rb,isV.rb,isV.rb,isV.rb,isV.rb,isV.rb,isV.rb,trivial⟩ rfl ?_ ?_
   ·refine⟨?_,?_,?_,?_,?_,?_,?_,?_,?_,?_,?_,?_,?_,?_,?_,?_,?_,?_,?_,?_,?_,?_,?_,trivial⟩
    ·exact oq rfl fun ev w9 v hR E pr=>by
      have e1:=E.was 3 _;simp[go_sem,e1,hwk]
    ·exact oq rfl fun ev w9 v hR E pr=>by
      have e1:=E.eq pr 0 37;simp[go_sem,E.con,hw38,e1,hwk]
    ·exact oq rfl fun ev w9 v hR E pr=>by
      have e1:=E.was 0 _;simp[go_sem,e1,hwk]
    ·exact oq rfl fun ev w9 v hR E pr=>by
      have e1:=E.eq pr 2 39;simp[go_sem,e1,hwk]
    ·exact oq rfl fun ev w9 v hR E pr=>by
      have e1:=E.eq pr 3 40;simp[go_sem,e1,hwk]
    ·exact oq rfl fun ev w9 v hR E pr=>by
      have e1:=E.eq pr 4 41;have cc:=(vS.next hR).cell (j:=1) (by omega);simp[lf]at cc;simp[go_sem,cc,e1,hwk]
    ·exact oq rfl fun ev w9 v hR E pr=>by
      have e1:=E.eq pr 1 38;have e2:=E.eq pr 5 42;simp[go_sem,qb43,e1,e2,hwk]
    ·exact oq rfl fun ev w9 v hR E pr=>by
      have e1:=E.eq pr 6 43;simp[go_sem,e1,hwk]
    ·exact OpOk.gd RB.refl 7 44 true true (b43) (fun _ _ h=>h) c7t hc7t _ (fun _=>rfl) fun ev w9 v hR E pr hC=>by
      have e1:=E.was 0 _;simp[go_sem,gv,hC,hc7t,e1,hwk]
    ·exact OpOk.gd RB.refl 7 44 true true (b43) (fun _ _ h=>h) c7t hc7t _ (fun _=>rfl) fun ev w9 v hR E pr hC=>by
      have e1:=E.eq pr 8 45;simp[go_sem,gv,hC,hc7t,e1,hwk]
    ·exact OpOk.gd RB.refl 7 44 true true (b43) (fun _ _ h=>h) c7t hc7t _ (fun _=>rfl) fun ev w9 v hR E pr hC=>by
      have e1:=E.eq pr 9 46;simp[go_sem,gv,hC,hc7t,e1,hwk]
    ·exact OpOk.gd RB.refl 7 44 true true (b43) (fun _ _ h=>h) c7t hc7t _ (fun _=>rfl) fun ev w9 v hR E pr hC=>by
      have e1:=E.eq pr 10 47;have cc:=(vS.next hR).cell (j:=4) (by omega);simp[lf]at cc;simp[go_sem,gv,hC,hc7t,cc,e1,hwk]
    ·exact OpOk.gd RB.refl 7 44 true true (b43) (fun _ _ h=>h) c7t hc7t _ (fun _=>rfl) fun ev w9 v hR E pr hC=>by
      have e1:=E.was 2 _;simp[go_sem,gv,hC,hc7t,e1,hwk]
    ·exact OpOk.gd RB.refl 7 44 true true (b43) (fun _ _ h=>h) c7t hc7t _ (fun _=>rfl) fun ev w9 v hR E pr hC=>by
      have e1:=E.eq pr 12 49;simp[go_sem,gv,hC,hc7t,E.con,hw50,e1,hwk]
    ·exact OpOk.gd RB.refl 7 44 true true (b43) (fun _ _ h=>h) c7t hc7t _ (fun _=>rfl) fun ev w9 v hR E pr hC=>by
      have e1:=E.eq pr 11 48;have e2:=E.eq pr 13 50;simp[go_sem,gv,hC,hc7t,hlt2,hk0,htn,e1,e2,hwk]
    ·exact OpOk.gd RB.refl 7 44 true true (b43) (fun _ _ h=>h) c7t hc7t _ (fun _=>rfl) fun ev w9 v hR E pr hC=>by
      have e1:=E.eq pr 14 51;simp[go_sem,gv,hC,hc7t,e1,hwk]
    ·exact OpOk.gd RB.refl 7 44 true true (b43) (fun _ _ h=>h) c7t hc7t _ (fun _=>rfl) fun ev w9 v hR E pr hC=>by
      have e1:=E.eq pr 15 52;have cc:=keep_cell hR nl hrow;simp[go_sem,gv,hC,hc7t,cc,e1,hwk]
    ·exact OpOk.gd RB.refl 7 44 true true (b43) (fun _ _ h=>h) c7t hc7t _ (fun _=>rfl) fun ev w9 v hR E pr hC=>by
      have e1:=E.was 0 _;simp[go_sem,gv,hC,hc7t,e1,hwk]
    ·exact OpOk.gd RB.refl 7 44 true true (b43) (fun _ _ h=>h) c7t hc7t _ (fun _=>rfl) fun ev w9 v hR E pr hC=>by
      have e1:=E.eq pr 17 54;simp[go_sem,gv,hC,hc7t,e1,hwk]
    ·exact OpOk.gd RB.refl 7 44 true true (b43) (fun _ _ h=>h) c7t hc7t _ (fun _=>rfl) fun ev w9 v hR E pr hC=>by
      have e1:=E.eq pr 18 55;simp[go_sem,gv,hC,hc7t,e1,hwk]
    ·exact OpOk.gd RB.refl 7 44 true true (b43) (fun _ _ h=>h) c7t hc7t _ (fun _=>rfl) fun ev w9 v hR E pr hC=>by
      have e1:=E.eq pr 19 56;have cc:=(vS.next hR).cell (j:=2) (by omega);simp[lf]at cc;simp[go_sem,gv,hC,hc7t,cc,e1,hwk]
    ·exact OpOk.gd RB.refl 7 44 true true (b43) (fun _ _ h=>h) c7t hc7t _ (fun _=>rfl) fun ev w9 v hR E pr hC=>by
      have e1:=E.eq pr 16 53;have e2:=E.eq pr 20 57;simp[go_sem,gv,hC,hc7t,qb58,e1,e2,hwk]
    ·exact oq rfl fun ev w9 v hR E pr=>by
      have e1:=E.eq pr 7 44;have e2:=E.eq pr 21 58;rcases Bool.eq_false_or_eq_true (b43) with hs|hs<;>simp[go_sem,E.con,qb59,gv,hc7t,e1,e2,hs,hwk]
   ·intro v w9 hR hp
    obtain⟨_,_,_,_,_,_,_,_,_,_,_,_,_,_,_,_,_,_,_,_,_,_,p22,_⟩:=hp;replace p22:v 22=.bool b59:=p22;simp only[putL,Nat.zero_add,Nat.reduceAdd,p22,Act.put,List.setIfInBounds_toArray,List.set_cons_zero,List.set_cons_succ]
    have eV:b59=(tOf n.log k==n.term&&majB n.peers cnt):=by
     simp only[qb43,qb58,qb59,majB];exact Bool.and_comm _ _
    have hR9:=RB.trans _ _ _ hR2 hR;have v9:NdB w9 b n ⟨some ⟨g,q,none⟩,lc,vo,vc,no,nc,some ⟨mb,mq,none⟩,mc⟩:=VHas.next vS hR;rw[eV]
    have hq2:agrN n=if (tOf n.log k==n.term&&majB n.peers cnt)=true then (k:Int)+1 else agr n k:=by
     rw[hq.out,hcnt.out];simp only[agr];rw[if_pos hlow']
    clear eV qb43 qb58 qb59 hq;rcases Bool.eq_false_or_eq_true (tOf n.log k==n.term&&majB n.peers cnt) with hs|hs
    ·rw[hs]at hq2 ⊢
     rw[if_pos rfl]at hq2;have hq2:Hid (agrN n=(k:Int)+1):=hq2;obtain⟨c0,c1,c2,c3,c4,c5,c6,c7,c8,c9⟩:=cN v9
     go_wp2_with (first|((with_reducible refine wpList_nd rfl 2 (.tmp 63) (.tmp 61) rfl rfl (b) 6 (.int .i64 ((k:Int)+1)) (by simp[go_sem]) (by simp[go_sem]) (acQ n) (⟨some ⟨g,q,none⟩,lc,vo,vc,no,nc,some ⟨mb,mq,none⟩,mc⟩) v9 (by omega) (by kernel_rfl) (by kernel_rfl) (oneV (by kernel_rfl)) (by simp[acQ,hq2.out]) ?_);intro W5 v5 g5)|fail)
     simp[bodyPost,results,Tryz.results62,go_sem];exact⟨v5,(gr_of_rb hR9).trans g5⟩
    ·rw[hs]at hq2 ⊢
     rw[if_neg (by simp)]at hq2;have hq2:Hid (agrN n=agr n k):=hq2;go_wp2
     go_roundw
     case rel=>exact⟨k,by omega,by first|rfl|go_num,hq2.out,hR9⟩
     case measure=>first|(simp[intOf];omega)|(simp[intOf];done)
def repL (x:Int) (n c:Nat):List Value:=List.replicate n (.int .i64 x)++List.replicate (c-n) (.int .i64 0)
theorem repL_len (x:Int) {n c:Nat} (h:n<=c):(repL x n c).length=c:=by simp[repL];omega
theorem repL_step (x:Int) {n c k:Nat} (h:n+k<=c):(repL x n c).take n++(List.replicate k (.int .i64 x)++(repL x n c).drop (n+k))=repL x (n+k) c:=by
 have e1:(repL x n c).take n=List.replicate n (.int .i64 x):=by
  have:=List.take_left (l₁ := List.replicate n (Value.int .i64 x)) (l₂ := List.replicate (c-n) (Value.int .i64 0));rw[List.length_replicate]at this;exact this
 have e2:(repL x n c).drop (n+k)=List.replicate (c-(n+k)) (.int .i64 0):=by
  have:=List.drop_left (l₁ := List.replicate n (Value.int .i64 x)) (l₂ := List.replicate (c-n) (Value.int .i64 0));rw[List.length_replicate]at this;rw[<-List.drop_drop];unfold repL;rw[this,List.drop_replicate]
  congr 1
  omega
 rw[e1,e2,<-List.append_assoc,List.replicate_append_replicate];rfl
theorem repL_at (x:Int) {n c j:Nat} (h:j<n):(repL x n c)[j]?=some (.int .i64 x):=by
 unfold repL;rw[List.getElem?_append_left (by simpa using h),List.getElem?_replicate,if_pos h]
theorem run_rep {w:World} {x:Int} {g n c k:Nat} (ty:TypeId) (dLen dCap:Nat) (ad:Addr) (sLen sCap:Nat) (hg:w.heap[g]?=some (.cells (repL x n c).toArray 2 (0,0))) (hk:k=Nat.min sLen dLen) (hnk:n+k<=c)
  (hsrc:∀ j,j<k->w.cell? (ad.add j)=some (.int .i64 x)):(Builtin.copy_ #[25,25] ty #[.slice (some ⟨g,n,none⟩) dLen dCap,.slice (some ad) sLen sCap]).run Tryz.prog w=.ok (goInt k) (w.setRow g (repL x (n+k) c).toArray):=by
 have hsz:(Tryz.prog.info? 2).map (·.size)=some 1:=by kernel_rfl
 have hl:(List.replicate k (Value.int .i64 x)).length=k:=List.length_replicate
 have hrun:=run_copy_row (P:=Tryz.prog) w 25 25 ty 2 g n dLen dCap ad sLen sCap (repL x n c).toArray 2 (List.replicate k (.int .i64 x)) Tryz.underlying25 hsz hg (by rw[hl];exact hk)
  (fun j v hj=>by
   rw[List.getElem?_replicate]at hj
   split at hj
   ·rename_i hjk
    rw[hsrc j hjk];exact hj
   ·cases hj) (by rw[hl,List.size_toArray,repL_len x (by omega)];exact hnk) (fun v hv=>by rw[(List.mem_replicate.mp hv).2];rfl)
 have e:(repL x n c).toArray.toList.take n++List.replicate k (.int .i64 x)++(repL x n c).toArray.toList.drop (n+(List.replicate k (Value.int .i64 x)).length)=repL x (n+k) c:=by
  rw[hl,List.append_assoc];exact repL_step x hnk
 rw[hrun,e,hl]
theorem wp_rep {w:World} {o:Oper} {a:Act} {R:Act->World->Prop} {Q:Exit->Act->World->Prop} (d s:Operand) (ho:o.op=.call { callee:=.builtin .copy,args:=#[d,s],argTypes:=#[25,25] }) (dd:Option Tmp) (hdd:o.dst=dd)
  {x:Int} {g n c:Nat} (k dLen dCap:Nat) (ad:Addr) (sLen sCap:Nat) (hd:a.eval d=.slice (some ⟨g,n,none⟩) dLen dCap) (hs:a.eval s=.slice (some ad) sLen sCap)
  (hg:w.heap[g]?=some (.cells (repL x n c).toArray 2 (0,0))) (hk:k=Nat.min sLen dLen) (hnk:n+k<=c) (hsrc:∀ j,j<k->w.cell? (ad.add j)=some (.int .i64 x))
  (h:R (a.put dd (goInt k)) (w.setRow g (repL x (n+k) c).toArray)):Oper.wp Tryz.prog o a w R Q:=by
 have hrun:=run_rep o.type dLen dCap ad sLen sCap hg hk hnk hsrc;subst hdd;unfold Oper.wp;simp[execOp,ho,resolve,invoke,builtin,hd,hs,hrun,Result.andThen];exact h
def RpAns (x:Int) (c:Nat) (w w':World) (e:Ending):Prop:=∃ g,e=.returned (.slice (some ⟨g,0,none⟩) c c)/\OwI w' w.heap.size (some ⟨g,0,none⟩) c (List.replicate c x)/\RB w w'
theorem own_rep {w:World} {x:Int} {g c base:Nat} (hc:c<=1048576) (hb:base<=g) (h:w.heap[g]?=some (.cells (repL x c c).toArray 2 (0,0))):OwI w base (some ⟨g,0,none⟩) c (List.replicate c x):=by
 have e0:repL x c c=ilc (List.replicate c x):=by simp[repL,ilc]
 unfold OwI GOwn;rw[List.length_replicate];refine⟨by rw[gCells_len],.inr ⟨g,c,_,rfl,hb,h,Nat.le_refl _,by unfold maxLen;omega,by simp[repL_len],?_⟩⟩;rw[e0];have hl:(ilc (List.replicate c x)).length=c*1:=by rw[ilc_len,List.length_replicate,Nat.mul_one]
 refine List.ext_getElem? (fun j=>?_)
 by_cases hj:j<c*1
 ·rw[gCells_at hj]
  have h2:j<(ilc (List.replicate c x)).length:=by omega
  simp[lf,List.getD_eq_getElem?_getD,h2];rw[List.getElem?_take,if_pos (by omega),List.getElem?_eq_getElem h2]
 ·rw[List.getElem?_eq_none (by simp[hl];omega),List.getElem?_eq_none (by rw[gCells_len];omega)]
set_option maxRecDepth 100000 in
set_option maxHeartbeats 4000000 in
theorem repeatI_any (x:Int) (c:Nat) (hc:1<=c) (hc2:c<=1048576) (b o cp:Nat) (w:World) (hr:w.cell? ⟨b,o,none⟩=some (.int .i64 x)):Calls Tryz.prog 90 #[.slice (some ⟨b,o,none⟩) 1 cp,.int .i64 (c:Int)] w fun e w'=>RpAns x c w w' e:=by
 have hwu:IntKind.u64.wrap (c:Int)=(c:Int):=by rw[IntKind.wrap_u64];omega
 have hwi:IntKind.i64.wrap (c:Int)=(c:Int):=by rw[IntKind.wrap_i64];omega
 have hneg:¬ (c:Int)<0:=by omega
 have hbig:¬ (9223372036854775807:Int)<(c:Int):=by omega
 have hmk:=make_ints c hc2;have hm1:Hid (1=Nat.min 1 c):=by show _ = _;simp[Nat.min_def];omega
 go_enter Tryz.func90,Tryz.ntmps90
 go_wp2_with fail
 refine (Tryz.bits_Mul 1 c (by omega) (by omega) _).mono ?_;rintro e w1 ⟨rfl,hw1⟩;replace hw1:=hw1.symm;subst hw1;rw[show 1*c / 18446744073709551616=0 by omega,show 1*c%18446744073709551616=c by omega];have hal:=RB.alloc w (.cells (madeCells #[.int .i64 0] c) 2)
 have hg0:(w.alloc (.cells (madeCells #[.int .i64 0] c) 2)).heap[w.heap.size]?=some (.cells (repL x 0 c).toArray 2 (0,0)):=by
  have e:madeCells #[.int .i64 0] c=(repL x 0 c).toArray:=by
   apply Array.toList_inj.mp;rw[toList_madeCells_one];simp[repL]
  rw[e];exact heap_alloc_new w _
 have hr1:=keep_cell hal nl hr;have H0:Hid ((w.alloc (.cells (madeCells #[.int .i64 0] c) 2)).heap[w.heap.size]?=some (.cells (repL x 0 c).toArray 2 (0,0))):=hg0;clear hg0
 have hsrc0:∀ j,j<1->(w.alloc (.cells (madeCells #[.int .i64 0] c) 2)).cell? ((⟨b,o,none⟩:Addr).add j)=some (.int .i64 x):=fun j hj=>by
  have:j=0:=by omega
  subst this;rw[show (⟨b,o,none⟩:Addr).add 0=⟨b,o,none⟩ from rfl];exact hr1
 obtain⟨W1,hW1⟩:∃ W1,W1=(w.alloc (.cells (madeCells #[.int .i64 0] c) 2)).setRow w.heap.size (repL x (0+1) c).toArray:=⟨_,rfl⟩
 have hcp:=run_rep 3 c c ⟨b,o,none⟩ 1 cp H0.out hm1.out (by omega) hsrc0;rw[<-hW1]at hcp;replace hW1:Hid (W1=(w.alloc (.cells (madeCells #[.int .i64 0] c) 2)).setRow w.heap.size (repL x (0+1) c).toArray):=hW1;go_wp2;have hgg:=hal.size
 have H1:Hid (W1.heap[w.heap.size]?=some (.cells (repL x 1 c).toArray 2 (0,0))):=by
  have e:=setRow_heap _ w.heap.size _ (repL x (0+1) c).toArray _ _ H0.out;rw[<-hW1.out]at e;exact e
 have hb:RB w W1:=by rw[hW1.out];exact below_setRow hal nl _
 clear hW1 H0 hsrc0 hr1 hal hmk hm1 hgg hcp
 go_loopw [8] (fun x8 wr=>∃ n:Nat,1<=n/\n<=c/\x8=.int .i64 (n:Int)/\Hid (wr.heap[w.heap.size]?=some (.cells (repL x n c).toArray 2 (0,0)))/\RB w wr) (fun y _=>c-(intOf y).toNat)
 case atStart=>exact⟨1,Nat.le_refl _,hc,rfl,H1,hb⟩
 case round=>
  obtain⟨n,hn1,hnc,rfl,HN,hRW⟩:=hrel;clear H1 hb
  by_cases hlt:n<c
  rotate_left
  ·have e:n=c:=by omega
   subst e;go_wp2;go_ret;exact⟨_,rfl,own_rep hc2 nl HN.out,hRW⟩
  have hlt':(n:Int)<(c:Int):=by omega
  go_wp2_with fail
  have hn0:(0:Int)<=(n:Int):=by omega
  have hle:(n:Int)<=(c:Int):=by omega
  have htn:(n:Int).toNat=n:=by omega
  have hcn:(c:Int).toNat=c:=by omega
  have hnn:¬ n=c:=by omega
  have hnn':¬ c=n:=by omega
  have hlen:n<=c:=by omega
  have hS0:True:=trivial;have HD:Hid (wr.drew.heap[w.heap.size]?=some (.cells (repL x n c).toArray 2 (0,0))):=HN;have hRD:RB w wr.drew:=Below.drew hRW;have hkk:Nat.min n (c-n)<=c-n:=Nat.min_le_right _ _;have hk1:1<=Nat.min n (c-n):=by show 1<=min n (c-n);omega
  have hkn:Nat.min n (c-n)<=n:=Nat.min_le_left _ _;refine wp_region_held_drew (S:=fun _=>True) (by kernel_rfl) hS0 (fun hS=>?_);refine tK 0 (some 38) (.int .i64 (n:Int)) rfl rfl hS (fun w3 hS3=>by go_simp) ?_;simp only[pS];refine tK 1 (some 39) (.slice (some ⟨w.heap.size,0,none⟩) c c) rfl rfl hS (fun w3 hS3=>by go_simp) ?_;simp only[pS];refine tK 2 (some 40) (.int .i64 (n:Int)) rfl rfl hS (fun w3 hS3=>by go_simp) ?_;simp only[pS];refine tK 3 (some 41) (.slice (some ⟨w.heap.size,n,none⟩) (c-n) (c-n)) rfl rfl hS (fun w3 hS3=>by go_simp) ?_;simp only[pS];refine tK 4 (some 42) (.slice (some ⟨w.heap.size,0,none⟩) c c) rfl rfl hS (fun w3 hS3=>by go_simp) ?_;simp only[pS];refine tK 5 (some 43) (.int .i64 (n:Int)) rfl rfl hS (fun w3 hS3=>by go_simp) ?_;simp only[pS];refine tK 6 (some 44) (.slice (some ⟨w.heap.size,0,none⟩) n c) rfl rfl hS (fun w3 hS3=>by go_simp) ?_;simp only[pS];refine step1H 7 _ rfl (by kernel_rfl) (by rfl) ?_;refine wp_rep (.tmp 41) (.tmp 44) rfl (some 45) rfl (Nat.min n (c-n)) (c-n) (c-n) ⟨w.heap.size,0,none⟩ n c rfl rfl HD.out rfl (by omega) (fun j hj=>?_) ⟨trivial,?_⟩
  ·have hjn:j<n:=by omega
   have e:(⟨w.heap.size,0,none⟩:Addr).add j=⟨w.heap.size,0+j,none⟩:=by simp[Addr.add];omega
   rw[e,Nat.zero_add];have h5:=HD.out;have h6:=repL_at x (c:=c) hjn;simp[World.cell?,h5,h6]
  have H2:=setRow_heap _ w.heap.size _ (repL x (n+Nat.min n (c-n)) c).toArray _ _ HD.out;have hR2:RB w (wr.drew.setRow w.heap.size (repL x (n+Nat.min n (c-n)) c).toArray):=below_setRow hRD nl _;generalize wr.drew.setRow w.heap.size (repL x (n+Nat.min n (c-n)) c).toArray=W2 at H2 hR2 ⊢;replace H2:Hid (W2.heap[w.heap.size]?=some (.cells (repL x (n+Nat.min n (c-n)) c).toArray 2 (0,0))):=H2;clear HD HN hRD hRW hS0;generalize Nat.min n (c-n)=k at H2 hkk hk1 hkn ⊢;have hw:IntKind.i64.wrap ((n:Int)+(k:Int))=((n+k:Nat):Int):=by rw[IntKind.wrap_i64];omega
  simp only[Act.put,List.setIfInBounds_toArray,List.set_cons_zero,List.set_cons_succ];refine tK 8 (some 46) (.int .i64 ((n+k:Nat):Int)) rfl rfl hS (fun w3 hS3=>by (try unfold goInt);simp[go_sem,hw]) ?_;simp only[pS];refine tK 9 (some 8) (.int .i64 ((n+k:Nat):Int)) rfl rfl hS (fun w3 hS3=>by go_simp) ?_;simp only[pS];refine wpAnyH_done (by kernel_rfl) ?_ _;go_wp2
  go_roundw
  case rel=>exact⟨n+k,by omega,by omega,rfl,H2,hR2⟩
  case measure=>simp[intOf];omega
end
section
def ag (f:Nat->Bool):Nat->Nat
 | 0=>0
 | m+1=>if ag f m=m then (if f m=true then m+1 else m) else ag f m
theorem ag_le (f:Nat->Bool):∀ m,ag f m<=m
 | 0=>Nat.le_refl _
 | m+1=>by
  have:=ag_le f m;unfold ag
  split
  ·split<;>omega
  ·omega
theorem ag_yes (f:Nat->Bool):∀ m j,j<ag f m->f j=true
 | 0,j,h=>by simp[ag]at h
 | m+1,j,h=>by
  have ih:=ag_yes f m;unfold ag at h
  split at h
  ·rename_i e
   split at h
   ·rename_i hf
    by_cases hj:j=m
    ·rw[hj];exact hf
    ·exact ih j (by omega)
   ·exact ih j (by omega)
  ·exact ih j h
theorem ag_no (f:Nat->Bool):∀ m,ag f m<m->f (ag f m)=false
 | 0,h=>by omega
 | m+1,h=>by
  have ih:=ag_no f m;have hl:=ag_le f m;unfold ag at h ⊢
  split at h
  ·rename_i e
   split at h
   ·omega
   ·rename_i hf
    rw[if_pos e,if_neg hf];simpa using hf
  ·rename_i e
   rw[if_neg e];exact ih (by omega)
theorem ag_is {f:Nat->Bool} {m k:Nat} (hk:k<=m) (hy:∀ j,j<k->f j=true) (hn:k<m->f k=false):ag f m=k:=by
 have h1:=ag_le f m;rcases Nat.lt_trichotomy (ag f m) k with h|h|h
 ·have:=ag_no f m (by omega)
  rw[hy _ h]at this;cases this
 ·exact h
 ·have:=ag_yes f m k h
  rw[hn (by omega)]at this;cases this
def agF (n:Nat) (T U:Nat->Int) (i k:Nat):Bool:=decide (i+k<n/\T (i+k)=U k)
def agN (n:Nat) (T:Nat->Int) (i m:Nat) (U:Nat->Int):Nat:=ag (agF n T U i) m
def mrg {α : Type} (k i:Nat) (T U:Nat->α) (j:Nat):α := if j<i+k then T j else U (j-i)
def mN (n i m k:Nat):Nat:=if k<m then i+m else n
def mV {α : Type} (m k i:Nat) (T U:Nat->α):Nat->α := if k<m then mrg k i T U else T
theorem mN_yes {n i m k:Nat} (h:k<m):mN n i m k=i+m:=if_pos h
theorem mN_no {n i m k:Nat} (h:¬ k<m):mN n i m k=n:=if_neg h
theorem mV_yes {α : Type} {m k i:Nat} {T U:Nat->α} (h:k<m):mV m k i T U=mrg k i T U:=if_pos h
theorem mV_no {α : Type} {m k i:Nat} {T U:Nat->α} (h:¬ k<m):mV m k i T U=T:=if_neg h
theorem agN_le (n:Nat) (T:Nat->Int) (i m:Nat) (U:Nat->Int):agN n T i m U<=m:=ag_le _ _
theorem agN_in {n:Nat} {T:Nat->Int} {i m:Nat} {U:Nat->Int} (hi:i<=n):i+agN n T i m U<=n:=by
 rcases Nat.eq_zero_or_pos (agN n T i m U) with h|h
 ·omega
 ·have:=ag_yes (agF n T U i) m (agN n T i m U-1) (by unfold agN at h ⊢;omega)
  have h2:=of_decide_eq_true this;omega
end
section
open Go.RowKit
attribute [local go_sem ↓] Go.wp_at_zero Go.wp_at_succ
def fitB (n:Nat) (T:Nat->Int) (i t:Int):Bool:=decide (0<=i/\i<=n/\lastT i.toNat T=t)
abbrev vE (a:Addr):Value:=.iface 199 (.pointer (some a))
end
section
open Go.RowKit Go.Extern.Stop Go.Stop Go.Extern

end
section
open Go.RowKit
attribute [local go_sem ↓] Go.wp_at_zero Go.wp_at_succ
def mOk (n:Nat) (T:Nat->Int) (X:Nat->ByteArray) (i:Int) (m:Nat) (U:Nat->Int) (Y:Nat->ByteArray):Bool:=
 logB n T X&&(decide (0<=i)&&(decide (i<=n)&&logB (mN n i.toNat m (agN n T i.toNat m U)) (mV m (agN n T i.toNat m U) i.toNat T U) (mV m (agN n T i.toNat m U) i.toNat X Y)))
def mLen (n:Nat) (T:Nat->Int) (X:Nat->ByteArray) (i:Int) (m:Nat) (U:Nat->Int) (Y:Nat->ByteArray):Nat:=if mOk n T X i m U Y=true then mN n i.toNat m (agN n T i.toNat m U) else 0
theorem mV_le {m k i n:Nat} {X Y:Nat->ByteArray} (hi:i<=n) (hk:i+k<=n) (hX:∀ j,j<n->(X j).size<=1048576) (hY:∀ j,j<m->(Y j).size<=1048576):∀ j,j<mN n i m k->(mV m k i X Y j).size<=1048576:=fun j hj=>by
 by_cases h:k<m
 ·rw[mN_yes h]at hj
  rw[mV_yes h];unfold mrg
  split
  ·exact hX j (by omega)
  ·exact hY _ (by omega)
 ·rw[mN_no h]at hj
  rw[mV_no h];exact hX j hj

end
section
open Go

end
section
open Go.RowKit
attribute [local go_sem ↓] Go.wp_at_zero Go.wp_at_succ
def eqL:List En->List En->Bool
 | [],[]=>true
 | x :: a,y :: b=>(decide (x.t=y.t)&&decide (x.x=y.x))&&eqL a b
 | _,_=>false
theorem eqL_iff:∀ a b:List En,eqL a b=true↔a=b
 | [],[]=>by simp[eqL]
 | x :: a,y :: b=>by
  obtain⟨xt,xx⟩:=x;obtain⟨yt,yx⟩:=y;simp[eqL,eqL_iff a b]
 | [],y :: b=>by simp[eqL]
 | x :: a,[]=>by simp[eqL]
end
section
open Go Go.RowKit
attribute [local go_sem ↓] Go.wp_at_zero Go.wp_at_succ
def lstE (k:Nat) (T:Nat->Int) (X:Nat->ByteArray):List En:=(List.range k).map (fun j=>⟨T j,X j⟩)
theorem lstE_len (k:Nat) (T:Nat->Int) (X:Nat->ByteArray):(lstE k T X).length=k:=by simp[lstE]
theorem lstE_lf (k:Nat) (T:Nat->Int) (X:Nat->ByteArray) (j:Nat) (h:j<k*2):lf (elc (lstE k T X)) j=nr T X j:=by
 rw[elc_lf _ _ (by rw[lstE_len];exact h)];have hj:j / 2<k:=by omega
 have h1:tOf (lstE k T X) (j / 2)=T (j / 2):=by simp[tOf,lstE,hj]
 have h2:xOf (lstE k T X) (j / 2)=X (j / 2):=by simp[xOf,lstE,hj]
 unfold nr;rw[h1,h2]
def mgK (n:Nd) (m:Ms):Nat:=agN n.log.length (tOf n.log) m.index.toNat m.ents.length (tOf m.ents)
def mgO (n:Nd) (m:Ms):Bool:=mOk n.log.length (tOf n.log) (xOf n.log) m.index m.ents.length (tOf m.ents) (xOf m.ents)
def mgL (n:Nd) (m:Ms):List En:=lstE (mLen n.log.length (tOf n.log) (xOf n.log) m.index m.ents.length (tOf m.ents) (xOf m.ents)) (mV m.ents.length (mgK n m) m.index.toNat (tOf n.log) (tOf m.ents)) (mV m.ents.length (mgK n m) m.index.toNat (xOf n.log) (xOf m.ents))
def mgF (n:Nd) (m:Ms):Bool:=(logL n.log&&fitB n.log.length (tOf n.log) m.index m.lterm)&&(mgO n m&&(decide (n.commit<=(mgL n m).length)&&eqL ((mgL n m).take n.commit.toNat) (n.log.take n.commit.toNat)))
structure MsZ (m:Ms):Prop where
 l:m.ents.length<=1048576
 x:∀ k,k<m.ents.length->(xOf m.ents k).size<=1048576

def apnR (m:Ms):Int:=m.index+m.ents.length
def apnG (n:Nd) (m:Ms):Nd:=⟨n.id,n.peers,n.term,n.vote,mgL (folN n) m,1,max n.commit (min m.commit (apnR m)),[],[],[]⟩
def apnN (n:Nd) (m:Ms):Nd:=if m.term<n.term then n else if n.role=3 then n else if mgF (folN n) m=true then apnG n m else folN n
def apnL (n:Nd) (m:Ms):List Ms:=if m.term<n.term then [appdM n m 0 false] else if n.role=3 then [] else if mgF (folN n) m=true then [appdM n m (apnR m) true] else [appdM n m (min (n.log.length:Int) (max m.index 1-1)) false]
structure NdK (n:Nd) (s:NdS):Prop where
 l:n.log.length<=s.lc
 v:n.votes.length<=s.vc
 x:n.next.length<=s.nc
 m:n.mat.length<=s.mc
theorem NdZ.k {n:Nd} {s:NdS} (h:NdZ n s):NdK n s:=⟨h.lc,h.vc,h.xc,h.mc⟩
def NmAns (n:Nd) (l:List Ms) (w w':World) (e:Ending):Prop:=∃ s v,e=.returned (.tuple #[ndV n s,v])/\NdM w' n s/\NdK n s/\NetV w.heap.size l v w'/\RB w w'
def matN (n:Nd) (i:Nat):Nd:=⟨n.id,n.peers,n.term,n.vote,n.log,n.role,n.commit,n.votes,n.next,n.mat.set i n.log.length⟩
def miN (n:Nd) (i:Nat):Nd:=⟨n.id,n.peers,n.term,n.vote,n.log,n.role,agrN (matN n i),n.votes,n.next,n.mat.set i n.log.length⟩
theorem ndL_mat (n:Nd) (i:Nat) (s:NdS):ndL (matN n i) s=ndL n s:=by simp[matN]
set_option maxRecDepth 100000 in
set_option maxHeartbeats 4000000 in
theorem matchingItself_any (n:Nd) (s:NdS) (hz:NdZ n s) (base i:Nat) (hid:n.id=i) (hil:i<n.mat.length) (hc:0<=n.commit) (w:World) (hbs:base<=w.heap.size) (hO:NdO w base n s):Calls Tryz.prog 60 #[ndV n s] w fun e w'=>e=.returned (ndV (miN n i) s)/\NdO w' base (miN n i) s/\w.grownBy w' (blk s.mo):=by
 have hz2:NdZ (matN n i) s:=⟨hz.l,hz.v,hz.x,by simp[matN];exact hz.m,hz.lc,hz.vc,hz.xc,by simp[matN];exact hz.mc,hz.tx⟩
 have hzl:=hz.l;have hzm:=hz.m;clear hz;obtain⟨lo,lc,vo,vc,no,nc,mo,mc⟩:=s;obtain⟨g,e,hgb,_⟩:=hO.m.vh (by show 0<n.mat.length;omega);simp only at e;subst e;have hb:=RB.trans _ _ _ (RB.alloc w (.cells (ndL n ⟨lo,lc,vo,vc,no,nc,some ⟨g,0,none⟩,mc⟩).toArray 27)) (RB.alloc _ (.cells (ndL nd0 ns0).toArray 27));have vA:NdB _ w.heap.size n ⟨lo,lc,vo,vc,no,nc,some ⟨g,0,none⟩,mc⟩:=(ndB_new w n ⟨lo,lc,vo,vc,no,nc,some ⟨g,0,none⟩,mc⟩).next (RB.alloc _ (.cells (ndL nd0 ns0).toArray 27));have vR:=ndB_new (w.alloc (.cells (ndL n ⟨lo,lc,vo,vc,no,nc,some ⟨g,0,none⟩,mc⟩).toArray 27)) nd0 ns0;rw[World.size_alloc]at vR;replace hO:=hO.next hb;have hi1:(i:Int)<(n.mat.length:Int):=by omega
 have hi0:(0:Int)<=(i:Int):=by omega
 have hit:(i:Int).toNat=i:=by omega
 have HID:Hid (n.id=i):=hid;clear hid;go_enter Tryz.func60,Tryz.ntmps60
 go_wp2_with fail
 have hid:=HID.out;generalize ((w.alloc _).alloc _)=W at hb vA vR hO ⊢;have hd:RB W W.drew:=(Below.refl _ _).drew;replace hb:=RB.trans _ _ _ hb hd;replace vA:NdB W.drew w.heap.size n ⟨lo,lc,vo,vc,no,nc,some ⟨g,0,none⟩,mc⟩:=VHas.next vA hd;replace vR:NdB W.drew (w.heap.size+1) nd0 ns0:=VHas.next vR hd;replace hO:=hO.next hd
 refine region_store (by kernel_rfl) (by kernel_rfl) (by kernel_rfl) RB RB.refl RB.trans
  [isV (.pointer (some ⟨w.heap.size,9,none⟩)),isV (.slice (some ⟨g,0,none⟩) n.mat.length mc),isV (.pointer (some ⟨w.heap.size,0,none⟩)),isV (.int .i64 n.id),isV (ndV n ⟨lo,lc,vo,vc,no,nc,some ⟨g,0,none⟩,mc⟩),isV (.int .i64 (n.log.length:Int)),isV (.pointer (some ⟨g,i,none⟩))]
  ⟨isV.rb,isV.rb,isV.rb,isV.rb,isV.rb,isV.rb,isV.rb,trivial⟩ rfl ?_ _ rfl rfl rfl
  (fun v w''=>NdO w'' base (matN n i) ⟨lo,lc,vo,vc,no,nc,some ⟨g,0,none⟩,mc⟩/\NdB w'' w.heap.size (matN n i) ⟨lo,lc,vo,vc,no,nc,some ⟨g,0,none⟩,mc⟩/\NdB w'' (w.heap.size+1) nd0 ns0/\w.grownBy w'' (some g)) ?_ ?_
 ·simp only[List.size_toArray,List.length_cons,List.length_nil,Nat.reduceAdd,Nat.reduceSub,List.take_succ_cons,List.take_zero]
  refine⟨?_,?_,?_,?_,?_,?_,?_,trivial⟩
  ·exact oq rfl fun ev w' v hR E pr=>by
    have e1:=E.was 1 _;simp[go_sem,e1]
  ·exact oq rfl fun ev w' v hR E pr=>by
    have e1:=E.eq pr 0 3;have cc:=(vA.next hR).cell (j:=9) (by omega);simp[lf]at cc;simp[go_sem,cc,e1]
  ·exact oq rfl fun ev w' v hR E pr=>by
    have e1:=E.was 1 _;simp[go_sem,e1]
  ·exact oq rfl fun ev w' v hR E pr=>by
    have e1:=E.eq pr 2 5;have cc:=(vA.next hR).cell (j:=0) (by omega);simp[lf]at cc;simp[go_sem,cc,e1]
  ·exact oq rfl fun ev w' v hR E pr=>by
    have e1:=E.was 1 _;exact exec_nd rfl e1 (vA.next hR)
  ·exact OpOk.ret _ (fun _=>rfl) fun ev w' v hR E pr=>by
    have e1:=E.eq pr 4 7;refine⟨46,#[ndV n ⟨lo,lc,vo,vc,no,nc,some ⟨g,0,none⟩,mc⟩],by simp[go_sem,gv,e1,E.fn],?_⟩;exact endOf_any n ⟨lo,lc,vo,vc,no,nc,some ⟨g,0,none⟩,mc⟩ hzl _
  ·exact oq rfl fun ev w' v hR E pr=>by
    have e1:=E.eq pr 1 4;have e2:=E.eq pr 3 6;simp[go_sem,hid,hi1,hi0,hit,e1,e2]
 ·intro ev w' v hR E hp
  obtain⟨_,_,_,_,_,p5,p6,_⟩:=hp;replace p5:v 5=.int .i64 (n.log.length:Int):=p5;replace p6:v 6=.pointer (some ⟨g,i,none⟩):=p6;have E1:=E.at_ 5 8 rfl (by kernel_rfl) (Nat.le_of_ble_eq_true (by kernel_rfl));have E2:=E.at_ 6 9 rfl (by kernel_rfl) (Nat.le_of_ble_eq_true (by kernel_rfl));rw[p5]at E1;rw[p6]at E2;have hO':=hO.next hR;obtain⟨g',e',hgb,hv⟩:=hO'.m.vh (by show 0<n.mat.length;omega);cases e';have hg:=gr_setCell w' g i (.int .i64 (n.log.length:Int));have hgt:∀ x,some g=some x->Typed w' x 2:=fun x e=>by cases e;exact hv.typed
  have hnv:blk vo≠some g:=fun e=>hO'.vm g e rfl
  have hnx:blk no≠some g:=fun e=>hO'.xm g e rfl
  refine⟨_,exec_cell rfl E2 E1 hv (by omega) (by kernel_rfl) rfl rfl,⟨hO'.l.gr hg hgt (by decide),hO'.v.apart hg hnv,hO'.x.apart hg hnx,hO'.m.set i hil _,hO'.vx,hO'.vm,hO'.xm⟩,?_,VHas.gr (VHas.next vR hR) hg hgt (by decide),?_⟩
  ·have:=VHas.gr (VHas.next vA hR) hg hgt (by decide)
   rw[<-ndL_mat]at this;exact this
  ·have h9:=RB.trans _ _ _ hb hR
   exact⟨hg.os.trans h9.os,hg.tape.trans h9.tape,hg.output.trans h9.output,Nat.le_trans h9.size hg.size,fun k hk hne=>(hg.block k (Nat.lt_of_lt_of_le hk h9.size) hne).trans (h9.block k hk)⟩
 ·rintro v w2 ⟨hO2,vA2,vR2,hg2⟩
  simp only[List.size_toArray,List.length_cons,List.length_nil,Nat.reduceAdd,Nat.reduceSub,List.take_succ_cons,List.take_zero,putL,Act.put,List.setIfInBounds_toArray,List.set_cons_zero,List.set_cons_succ];obtain⟨d0,d1,d2,d3,d4,d5,d6,d7,d8,d9⟩:=cN vA2
  go_wp2_with fail
  refine (agreedOn_any (matN n i) ⟨lo,lc,vo,vc,no,nc,some ⟨g,0,none⟩,mc⟩ hz2 hc _ hO2.M).mono ?_;rintro e w3 ⟨rfl,hb3⟩;clear d0 d1 d2 d3 d4 d5 d6 d7 d8 d9;replace hO2:=hO2.next hb3;replace vA2:NdB w3 w.heap.size (matN n i) ⟨lo,lc,vo,vc,no,nc,some ⟨g,0,none⟩,mc⟩:=VHas.next vA2 hb3;replace vR2:NdB w3 (w.heap.size+1) nd0 ns0:=VHas.next vR2 hb3;have hsz2:w.heap.size<=w2.heap.size:=hg2.size;replace hg2:w.grownBy w3 (some g):=⟨hb3.os.trans hg2.os,hb3.tape.trans hg2.tape,hb3.output.trans hg2.output,Nat.le_trans hg2.size hb3.size,fun k hk hne=>(hb3.block k (Nat.lt_of_lt_of_le hk hsz2)).trans (hg2.block k hk hne)⟩
  go_wp2_with (first|(with_reducible refine wN 2 (.tmp 12) (.tmp 11) w.heap.size 6 (.int .i64 (agrN (matN n i))) (miN n i) ⟨lo,lc,vo,vc,no,nc,some ⟨g,0,none⟩,mc⟩ vA2 ?_;intro W4 vA4 hg4;have hO4:=hO2.gr hg4 (ndT vA2) (by decide) (by decide);have vR4:NdB W4 (w.heap.size+1) nd0 ns0:=VHas.grown vR2 hg4 (fun e=>by have:=Option.some.inj e;omega);obtain⟨d0,d1,d2,d3,d4,d5,d6,d7,d8,d9⟩:=cN vA4)|(with_reducible refine wB 27 (.tmp 2) (.tmp 13) (w.heap.size+1) (ndL (miN n i) ⟨lo,lc,vo,vc,no,nc,some ⟨g,0,none⟩,mc⟩) vR4 ?_;intro W9 hv9 hg9))
  obtain⟨q0,q1,q2,q3,q4,q5,q6,q7,q8,q9⟩:=cN hv9
  have hO9:NdO W9 base (miN n i) ⟨lo,lc,vo,vc,no,nc,some ⟨g,0,none⟩,mc⟩:=by
   have h1:=hO4.gr hg9 (ndT vR4) (by decide) (by decide);exact⟨h1.l,h1.v,h1.x,h1.m,h1.vx,h1.vm,h1.xm⟩
  have hgg:w.grownBy W9 (some g):=⟨hg9.os.trans (hg4.os.trans hg2.os),hg9.tape.trans (hg4.tape.trans hg2.tape),hg9.output.trans (hg4.output.trans hg2.output),Nat.le_trans hg2.size (Nat.le_trans hg4.size hg9.size),fun k hk hne=>(hg9.block k (Nat.lt_of_lt_of_le hk (Nat.le_trans hg2.size hg4.size)) (fun e=>by have:=Option.some.inj e;omega)).trans ((hg4.block k (Nat.lt_of_lt_of_le hk hg2.size) (fun e=>by have:=Option.some.inj e;omega)).trans (hg2.block k hk hne))⟩
  exact bodyPost_ret (v:=ndV (miN n i) ⟨lo,lc,vo,vc,no,nc,some ⟨g,0,none⟩,mc⟩) (by simp[results,Tryz.results60,go_sem,q0,q1,q2,q3,q4,q5,q6,q7,q8,q9]) rfl ⟨rfl,hO9,hgg⟩
theorem Tryz.infoEn:(Tryz.prog.info? 47).map (fun i=>(i.zero,i.size,i.bytes))=some (some (.agg #[.int .i64 0,.string ByteArray.empty]),2,24):=by kernel_rfl
theorem Tryz.elEn:ElI Tryz.prog 24 47 2 24:=⟨Tryz.underlying24,by
 obtain⟨i0,hi0,hz0,hz1,hz2⟩:=info_parts Tryz.infoEn
 exact⟨i0,_,hi0,hz0,hz1,hz2,rfl⟩,by omega,by omega⟩
def prR (t:ByteArray):Bool:=(onlyOk (rdS t.data.toList)).isSome
def prB (n:Nd) (t:ByteArray):Bool:=prR t&&((n.role==3)&&roomL n)
def prA (n:Nd) (t:ByteArray):Nd:=⟨n.id,n.peers,n.term,n.vote,n.log++[⟨n.term,t⟩],n.role,n.commit,n.votes,n.next,n.mat⟩
def prN (n:Nd) (t:ByteArray):Nd:=if nodeB n=true then (if prB n t=true then miN (prA n t) n.id.toNat else n) else nd0
def prK (n:Nd) (t:ByteArray):Int:=if nodeB n=true then (if prB n t=true then n.log.length+1 else -1) else -1
def NiAns (n:Nd) (k:Int) (w w':World) (e:Ending):Prop:=∃ s,e=.returned (.tuple #[ndV n s,.int .i64 k])/\NdM w' n s/\NdK n s/\RB w w'
theorem OwE.more {w:World} {base:Nat} {ao:Option Addr} {cap:Nat} {l:List En} {x:En} (h:GOwn w base 47 2 ao (l.length+1) cap (fun j=>if j<l.length*2 then lf (elc l) j else lf [.int .i64 x.t,.string x.x] (j-l.length*2))):OwE w base ao cap (l++[x]):=by
 unfold OwE;rw[List.length_append];refine GOwn.congr h (fun j hj=>?_);have e:elc (l++[x])=elc l++[.int .i64 x.t,.string x.x]:=by rw[elc_app];rfl
 rw[e,lf_app,elc_len]
theorem NdO.K {w:World} {base:Nat} {n:Nd} {s:NdS} (h:NdO w base n s):NdK n s:=⟨GOwn.cap h.l,GOwn.cap h.v,GOwn.cap h.x,GOwn.cap h.m⟩
set_option maxRecDepth 100000 in
set_option maxHeartbeats 8000000 in
theorem propose_any (n:Nd) (s:NdS) (hz:NdZ n s) (t:ByteArray) (ht:t.size<=1048576) (aL aE aO:Addr) (w:World) (hG:GlV w aL aE aO) (hM:NdM w n s):Calls Tryz.prog 21 #[ndV n s,.string t] w fun e w'=>NiAns (prN n t) (prK n t) w w' e:=by
 have hb:=RB.trans _ _ _ (RB.alloc w (.cells (ndL n s).toArray 27)) (RB.alloc _ (.cells (ndL nd0 ns0).toArray 27));have vA:NdB _ w.heap.size n s:=(ndB_new w n s).next (RB.alloc _ (.cells (ndL nd0 ns0).toArray 27));have vR:=ndB_new (w.alloc (.cells (ndL n s).toArray 27)) nd0 ns0;rw[World.size_alloc]at vR;replace hM:=hM.next hb;replace hG:=hG.next hb;go_enter Tryz.func21,Tryz.ntmps21
 go_wp2_with fail
 generalize ((w.alloc _).alloc _)=W at hb vA vR hM hG ⊢;refine (nodeOk_any n s hz aL aE aO _ hG hM).mono ?_;rintro e w1 ⟨rfl,hb1⟩;replace hb:=RB.trans _ _ _ hb hb1;replace vA:NdB w1 w.heap.size n s:=VHas.next vA hb1;replace vR:NdB w1 (w.heap.size+1) nd0 ns0:=VHas.next vR hb1;replace hM:=hM.next hb1;clear hG hb1;rcases Bool.eq_false_or_eq_true (nodeB n) with hB|hB
 rotate_left
 ·rw[hB]
  have HN:Hid (prN n t=nd0):=by show _ = _;simp[prN,hB]
  have HK:Hid (prK n t = -1):=by show _ = _;simp[prK,hB]
  go_wp2_with (first|((with_reducible refine wB 27 (.tmp 4) (.tmp 12) (w.heap.size+1) (ndL (nd0) (ns0)) vR ?_);intro W9 hv9 hg9)|fail)
  obtain⟨q0,q1,q2,q3,q4,q5,q6,q7,q8,q9⟩:=cN hv9;exact bodyPost_ret (v:=.tuple #[ndV nd0 ns0,.int .i64 (-1)]) (by simp[results,Tryz.results21,go_sem,q0,q1,q2,q3,q4,q5,q6,q7,q8,q9]) rfl (by rw[HN.out,HK.out];exact⟨ns0,rfl,(ndO_zero _ 0).M,(ndO_zero W9 0).K,gr_rb hb hg9 (by omega)⟩)
 rw[hB];have hpe:=nodeB_peers hB
 have hco:0<=n.commit:=by
  simp[nodeB]at hB;omega
 have hrch:=fun h=>nodeB_reach hB h
 have HN0:Hid (prN n t=if prB n t=true then miN (prA n t) n.id.toNat else n):=by show _ = _;simp[prN,hB]
 have HK0:Hid (prK n t=if prB n t=true then (n.log.length:Int)+1 else -1):=by show _ = _;simp[prK,hB]
 clear hB;obtain⟨d0,d1,d2,d3,d4,d5,d6,d7,d8,d9⟩:=cN vA
 go_wp2_with fail
 clear d0 d1 d2 d3 d4 d5 d6 d7 d8 d9;refine (copyOfNode_any n s hz _ hM).mono ?_;rintro e w2 ⟨s2,rfl,hO,hb2⟩;have hsz:w.heap.size+1<w1.heap.size:=vR.lt;have hbase:w1.heap.size<=w2.heap.size:=hb2.size;replace hb:=RB.trans _ _ _ hb hb2;replace vR:NdB w2 (w.heap.size+1) nd0 ns0:=VHas.next vR hb2;clear vA hM hb2;have hal:=RB.alloc w2 (.cells (ndL n s2).toArray 27);have vO:=ndB_new w2 n s2;have hlt2:w.heap.size+1<w2.heap.size:=vR.lt;replace hO:=hO.next hal;replace hb:=RB.trans _ _ _ hb hal;replace vR:NdB _ (w.heap.size+1) nd0 ns0:=VHas.next vR hal;clear hal
 go_wp2_with fail
 generalize (w2.alloc (.cells (ndL n s2).toArray 27))=W2 at hO hb vR vO ⊢;generalize w2.heap.size=ob at vO hlt2 hbase ⊢;refine (implRead_same t ht _).mono ?_;rintro e w3 ⟨xo,xc,rfl,_,hb3⟩;have hal:=RB.alloc w3 (.cells #[.int .i64 (kOf (onlyOk (rdS t.data.toList))),.slice xo ((lOf (onlyOk (rdS t.data.toList))).length / 3) xc,.int .i64 (aOf (onlyOk (rdS t.data.toList)) 0),.int .i64 (aOf (onlyOk (rdS t.data.toList)) 1)] 78);replace hb:=RB.trans _ _ _ (RB.trans _ _ _ hb hb3) hal;replace vR:NdB _ (w.heap.size+1) nd0 ns0:=VHas.next (VHas.next vR hb3) hal;replace vO:NdB _ ob n s2:=VHas.next (VHas.next vO hb3) hal;replace hO:=(hO.next hb3).next hal;clear hb3 hal;generalize hrr:onlyOk (rdS t.data.toList)=r at hb vR vO hO ⊢;have hpr:prR t=r.isSome:=by unfold prR;rw[hrr]
 clear hrr;obtain⟨f0,f1,f2,f3,f4,f5,f6,f7,f8,f9⟩:=cN vO;have no:prB n t=false->∀ W9,NdB W9 (w.heap.size+1) n s2->True:=fun _ _ _=>trivial
 clear no;rcases Bool.eq_false_or_eq_true r.isSome with his|his
 rotate_left
 ·have hp:prB n t=false:=by simp[prB,hpr,his]
  have HN:Hid (prN n t=n):=by show _ = _;rw[HN0.out,hp];rfl
  have HK:Hid (prK n t = -1):=by show _ = _;rw[HK0.out,hp];rfl
  rw[his];clear hp
  go_wp2_with (first|((with_reducible refine wB 27 (.tmp 4) (.tmp 32) (w.heap.size+1) (ndL (n) (s2)) vR ?_);intro W9 hv9 hg9)|fail)
  obtain⟨q0,q1,q2,q3,q4,q5,q6,q7,q8,q9⟩:=cN hv9;exact bodyPost_ret (v:=.tuple #[ndV n s2,.int .i64 (-1)]) (by simp[results,Tryz.results21,go_sem,q0,q1,q2,q3,q4,q5,q6,q7,q8,q9]) rfl (by rw[HN.out,HK.out];exact⟨s2,rfl,hO.M.gr hg9 (ndT vR) (by decide) (by decide),hO.K,gr_rb hb hg9 (by omega)⟩)
 rw[his]
 by_cases hr:n.role=3
 rotate_left
 ·have hp:prB n t=false:=by simp[prB,hr]
  have HN:Hid (prN n t=n):=by show _ = _;rw[HN0.out,hp];rfl
  have HK:Hid (prK n t = -1):=by show _ = _;rw[HK0.out,hp];rfl
  have hr':(n.role != 3)=true:=by simp[hr]
  clear hp hr hrch
  go_wp2_with (first|((with_reducible refine wB 27 (.tmp 4) (.tmp 32) (w.heap.size+1) (ndL (n) (s2)) vR ?_);intro W9 hv9 hg9)|fail)
  obtain⟨q0,q1,q2,q3,q4,q5,q6,q7,q8,q9⟩:=cN hv9;exact bodyPost_ret (v:=.tuple #[ndV n s2,.int .i64 (-1)]) (by simp[results,Tryz.results21,go_sem,q0,q1,q2,q3,q4,q5,q6,q7,q8,q9]) rfl (by rw[HN.out,HK.out];exact⟨s2,rfl,hO.M.gr hg9 (ndT vR) (by decide) (by decide),hO.K,gr_rb hb hg9 (by omega)⟩)
 have hr':(n.role != 3)=false:=by simp[hr]
 obtain⟨hnl,hml,_⟩:=hrch hr;have hprB:prB n t=roomL n:=by simp[prB,hpr,his,hr]
 have hzl:=hz.l;clear hr hrch hpr
 go_wp2_with fail
 refine (logHasRoom_any n s2 hzl _).mono ?_;rintro e w4 ⟨rfl,hb4⟩;replace hb:=RB.trans _ _ _ hb hb4;replace vR:NdB w4 (w.heap.size+1) nd0 ns0:=VHas.next vR hb4;replace vO:NdB w4 ob n s2:=VHas.next vO hb4;replace hO:=hO.next hb4;clear hb4 f0 f1 f2 f3 f4 f5 f6 f7 f8 f9;obtain⟨f0,f1,f2,f3,f4,f5,f6,f7,f8,f9⟩:=cN vO;rcases Bool.eq_false_or_eq_true (roomL n) with hrm|hrm
 rotate_left
 ·rw[hrm]at hprB ⊢
  have HN:Hid (prN n t=n):=by show _ = _;rw[HN0.out,hprB];rfl
  have HK:Hid (prK n t = -1):=by show _ = _;rw[HK0.out,hprB];rfl
  clear hprB
  go_wp2_with (first|((with_reducible refine wB 27 (.tmp 4) (.tmp 32) (w.heap.size+1) (ndL (n) (s2)) vR ?_);intro W9 hv9 hg9)|fail)
  obtain⟨q0,q1,q2,q3,q4,q5,q6,q7,q8,q9⟩:=cN hv9;exact bodyPost_ret (v:=.tuple #[ndV n s2,.int .i64 (-1)]) (by simp[results,Tryz.results21,go_sem,q0,q1,q2,q3,q4,q5,q6,q7,q8,q9]) rfl (by rw[HN.out,HK.out];exact⟨s2,rfl,hO.M.gr hg9 (ndT vR) (by decide) (by decide),hO.K,gr_rb hb hg9 (by omega)⟩)
 rw[hrm]at hprB ⊢;have HN:Hid (prN n t=miN (prA n t) n.id.toNat):=by show _ = _;rw[HN0.out,hprB];rfl
 have HK:Hid (prK n t=(n.log.length:Int)+1):=by show _ = _;rw[HK0.out,hprB];rfl
 have hl200:n.log.length<200:=by simp[roomL]at hrm;omega
 clear hprB hrm HN0 HK0;have hal:=RB.alloc w4 (.cells #[.int .i64 n.term,.string t] 47);have vL:VHas (w4.alloc (.cells #[.int .i64 n.term,.string t] 47)) w4.heap.size 47 2 (lf [.int .i64 n.term,.string t]):=box_new w4 [.int .i64 n.term,.string t] 47;have hgr:GRow (w4.alloc (.cells #[.int .i64 n.term,.string t] 47)) (some ⟨w4.heap.size,0,none⟩) (1*2) (lf [.int .i64 n.term,.string t]):=vhas_grow vL
 have hon:∀ j,j<1*2->(lf [Value.int .i64 n.term,.string t] j).oneCell'=true:=fun j hj=>by
  have:j=0\/j=1:=by omega
  rcases this with rfl|rfl<;>rfl
 replace hb:=RB.trans _ _ _ hb hal;replace vR:NdB _ (w.heap.size+1) nd0 ns0:=VHas.next vR hal;replace vO:NdB _ ob n s2:=VHas.next vO hal;replace hO:=hO.next hal;have hOl:GOwn (w4.alloc (.cells #[.int .i64 n.term,.string t] 47)) w1.heap.size 47 2 s2.lo n.log.length s2.lc (lf (elc n.log)):=hO.l;have hlen:n.log.length+1<=100000000:=by omega
 have hbs:w1.heap.size<=(w4.alloc (.cells #[.int .i64 n.term,.string t] 47)).heap.size:=Nat.le_trans hbase (Nat.le_of_lt vO.lt);clear hal vL
 go_wp2_with (first|(at_builtin;(with_reducible refine wpList_appR rfl (.tmp 34) (.tmp 39) Tryz.elEn rfl 40 rfl w1.heap.size _ s2.lo n.log.length s2.lc (by simp[go_sem]) hOl (some ⟨w4.heap.size,0,none⟩) 1 1 (lf [.int .i64 n.term,.string t]) (by simp[go_sem]) hgr hon hlen hbs ?_);intro ao' cap' w5 hown hg5;have hT5:∀ x,(Value.slice s2.lo n.log.length s2.lc).ownBlock=some x->Typed _ x 47:=fun x e=>GOwn.typed hOl e;have vO5:NdB w5 ob n s2:=VHas.gr vO hg5 hT5 (by decide))|((with_reducible refine wpList_nd rfl 24 (.tmp 41) (.tmp 40) rfl rfl ob 4 (.slice ao' (n.log.length+1) cap') (by simp[go_sem]) (by simp[go_sem]) (prA n t) ⟨ao',cap',s2.vo,s2.vc,s2.no,s2.nc,s2.mo,s2.mc⟩ vO5 (by omega) (by kernel_rfl) (by kernel_rfl) (oneV (by kernel_rfl)) (by simp[prA]) ?_);intro W6 vO6 hg6)|fail)
 have hb5:RB w w5:=rb_row hb hg5 (fun x e=>by have:=(GOwn.at hOl e).1;omega);have hb6:RB w W6:=gr_rb hb5 hg6 (by omega);have vR6:NdB W6 (w.heap.size+1) nd0 ns0:=VHas.grown (VHas.gr vR hg5 hT5 (by decide)) hg6 (fun e=>by have:=Option.some.inj e;omega);have hO6:NdO W6 w1.heap.size (prA n t) ⟨ao',cap',s2.vo,s2.vc,s2.no,s2.nc,s2.mo,s2.mc⟩:=⟨(OwE.more hown).gr hg6 (ndT vO5) (by decide),(hO.v.gr hg5 hT5 (by decide)).gr hg6 (ndT vO5) (by decide),(hO.x.gr hg5 hT5 (by decide)).gr hg6 (ndT vO5) (by decide),(hO.m.gr hg5 hT5 (by decide)).gr hg6 (ndT vO5) (by decide),hO.vx,hO.vm,hO.xm⟩
 have hbs6:w1.heap.size<=W6.heap.size:=Nat.le_trans hbase (Nat.le_of_lt vO6.lt);clear vO vO5 hOl hown hg5 hg6 hT5 hb5 hb vR hO hgr hon f0 f1 f2 f3 f4 f5 f6 f7 f8 f9
 have hzA:NdZ (prA n t) ⟨ao',cap',s2.vo,s2.vc,s2.no,s2.nc,s2.mo,s2.mc⟩:=⟨by simp[prA];omega,hz.v,hz.x,hz.m,hO6.K.l,hO6.K.v,hO6.K.x,hO6.K.m,fun k hk=>by
  by_cases hkl:k<n.log.length
  ·have e1:xOf (n.log++[⟨n.term,t⟩]) k=xOf n.log k:=by simp[xOf,List.getElem?_append_left hkl]
   show (xOf (n.log++[⟨n.term,t⟩]) k).size<=1048576
   rw[e1];exact hz.tx k hkl
  ·have hk2:k=n.log.length:=by simp[prA]at hk;omega
   subst hk2
   show (xOf (n.log++[⟨n.term,t⟩]) n.log.length).size<=1048576
   simp[xOf]
   exact ht⟩
 have hid:(prA n t).id=(n.id.toNat:Int):=by show n.id = _;omega
 have hil:n.id.toNat<(prA n t).mat.length:=by show _<n.mat.length;omega
 have hoz:(prA n t).log.length=n.log.length+1:=by simp[prA]
 generalize hA:prA n t=A at vO6 hO6 hzA hid hil hoz HN ⊢;have hcA:0<=A.commit:=by rw[<-hA];exact hco
 clear hA;generalize hS2:(⟨ao',cap',s2.vo,s2.vc,s2.no,s2.nc,s2.mo,s2.mc⟩:NdS)=sA at vO6 hO6 hzA ⊢;clear hS2;have HID:Hid (A.id=(n.id.toNat:Int)):=hid;clear hid;have hd:RB W6 W6.drew:=(Below.refl _ _).drew;replace vO6:NdB W6.drew ob A sA:=VHas.next vO6 hd;replace vR6:NdB W6.drew (w.heap.size+1) nd0 ns0:=VHas.next vR6 hd;replace hO6:=hO6.next hd;replace hb6:=RB.trans _ _ _ hb6 hd;replace hbs6:w1.heap.size<=W6.drew.heap.size:=Nat.le_trans hbs6 hd.size;clear hd;refine wp_region_held_drew (S:=fun W'=>NdB W' ob A sA) (by kernel_rfl) vO6 (fun hS=>?_);refine tK 0 (some 42) (ndV A sA) rfl rfl hS (fun w9 hS9=>by exact exec_nd rfl (by simp[go_sem]) hS9) ?_;simp only[pS];refine tK 2 (some 44) (ndV A sA) rfl rfl hS (fun w9 hS9=>by exact exec_nd rfl (by simp[go_sem]) hS9) ?_;simp only[pS];refine step1H 1 _ rfl (by kernel_rfl) (by rfl) ?_;go_simp;refine (matchingItself_any A sA hzA w1.heap.size n.id.toNat HID.out hil hcA _ hbs6 hO6).mono ?_;rintro e w7 ⟨rfl,hO7,hg7⟩;have hT7:∀ x,blk sA.mo=some x->Typed W6.drew x 2:=fun x e=>GOwn.typed hO6.m (by cases hq:sA.mo<;>rw[hq]at e<;>simp_all [blk,Value.ownBlock])
 have hb7:RB w w7:=rb_row hb6 hg7 (fun x e=>by have:=(hO6.m.at e).1;omega);replace hS:NdB w7 ob A sA:=VHas.gr hS hg7 hT7 (by decide);have vR7:NdB w7 (w.heap.size+1) nd0 ns0:=VHas.gr vR6 hg7 hT7 (by decide);clear hg7 hT7 hb6 hO6 vR6 vO6;refine⟨hS,?_⟩;refine step1H 3 _ rfl (by kernel_rfl) (by rfl) ?_;go_simp;refine (endOf_any A sA hzA.l _).mono ?_;rintro e w8 ⟨rfl,hb8⟩;replace hS:NdB w8 ob A sA:=VHas.next hS hb8;have vR8:NdB w8 (w.heap.size+1) nd0 ns0:=VHas.next vR7 hb8;have hO8:=hO7.next hb8;have hb9:=RB.trans _ _ _ hb7 hb8;clear hb8 hb7 hO7 vR7;refine⟨hS,?_⟩;refine step1H 4 _ rfl (by kernel_rfl) (by rfl) ?_;refine wp_store_box 27 (.tmp 4) (.tmp 43) rfl (w.heap.size+1) (ndL (miN A n.id.toNat) sA) (by simp[go_sem]) (by simp[go_sem]) vR8 (by kernel_rfl) (oneAll (by kernel_rfl)) ?_;intro W9 hv9 hg9;replace hS:NdB W9 ob A sA:=VHas.grown hS hg9 (fun e=>by have:=Option.some.inj e;omega);have hO9:=hO8.gr hg9 (ndT vR8) (by decide) (by decide);have hb10:=gr_rb hb9 hg9 (by omega);refine⟨hS,?_⟩
 try simp only[Act.put,List.setIfInBounds_toArray,List.set_cons_zero,List.set_cons_succ]
 refine tK 5 (some 5) (.int .i64 (A.log.length:Int)) rfl rfl hS (fun w9 hS9=>by go_simp) ?_;simp only[pS];refine wpAnyH_done (by kernel_rfl) ?_ _;obtain⟨q0,q1,q2,q3,q4,q5,q6,q7,q8,q9⟩:=cN hv9;clear hS;go_wp2;exact bodyPost_ret (v:=.tuple #[ndV (miN A n.id.toNat) sA,.int .i64 ((n.log.length:Int)+1)]) (by simp[results,Tryz.results21,go_sem,q0,q1,q2,q3,q4,q5,q6,q7,q8,q9]) rfl (by rw[HN.out,HK.out];exact⟨sA,rfl,hO9.M,hO9.K,hb10⟩)
end
end Go.Proofs.YtbabakgjkloabaaGreatDoor
