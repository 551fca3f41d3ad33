/-
  Helpers: Sn3, Rep, MrgP, FitA, ErrAs, MrgI, FitI, BAn, EqN.
-/
import Derived.Test.YtbabakgjkloabaaGreatDoorPack11
import Derived.Test.YtbabakgjkloabaaGreatDoorShelfB
set_option linter.unusedVariables false
set_option linter.unusedSimpArgs false
set_option maxRecDepth 100000
set_option maxHeartbeats 16000000
namespace Go.Proofs.YtbabakgjkloabaaGreatDoor
section
open Go Go.RowKit
attribute [local go_sem ↓] Go.wp_at_zero Go.wp_at_succ
theorem zY{w w':World}{b:Option Nat}(h:RB w w'):w.grownBy w' b:=⟨h.os,h.tape,h.output,h.size,fun k hk _=>h.block k hk⟩
def G5(n:Nd):Nd:=⟨n.id,n.peers,n.term,n.vote,n.log,n.role,lH n,n.votes,n.next,n.mat⟩
theorem Q2(i:Int)(l:List Int)(p:Nat)(h:p<l.length):jZ i (l.take (p+1))=jZ i (l.take p)+(if i<=aT l p then 1 else 0):=by
 have e:aT l p=l[p]:=by simp[aT,h]
 rw[e,jZ,jZ,List.take_succ_eq_append_getElem h,List.countP_append]
 by_cases q:i<=l[p]<;>simp[q]
theorem Z9{n:Nd}(h:lH n=n.commit):G5 n=n:=by
 cases n;simp only[G5] at *
 rw[h]
theorem gN(n:Nd)(s:NdS)(hz:NdZ n s)(b:Nat)(hc:0<=n.commit)(hp:1<=n.peers/\n.peers<=5)(hml:(n.mat.length:Int)=n.peers)(w:World)(vB:NdB w b n s)(hM:NdM w n s):Calls Tryz.prog 62 #[.pointer (some ⟨b,0,none⟩)] w fun e w'=>e=.returned (.tuple #[])/\NdB w' b (G5 n) s/\w.grownBy w' (some b):=by
 have hzl:=hz.l;have hzm:=hz.m;clear hz;obtain⟨lo,lc,vo,vc,no,nc,mo,mc⟩:=s;obtain⟨mb,mq,e,_,hclm⟩:=hM.m (fun h=>by have:=cO n.mat;rw[h]at this;simp at this;omega);simp only at e;subst e;have HV:Hid (∀ j,j<n.mat.length->w.cell? ⟨mb,mq+j,none⟩=some (.int .i64 (aT n.mat j))):=fun j hj=>hclm _ _ (fZ hj)
 replace hml:Hid ((n.mat.length:Int)=n.peers):=hml;clear hclm;obtain⟨c0,c1,c2,c3,c4,c5,c6,c7,c8,c9⟩:=cN vB;go_enter Tryz.func62,Tryz.ntmps62;go_wp2;clear c0 c1 c2 c3 c4 c5 c6 c7 c8 c9
 go_loopw [2,3,4] (fun x2 x3 x4 wr=>∃ m:Nat,m<=n.log.length/\x2=.int .i64 (m:Int)/\lH n=A5 n m/\RB w wr) (fun x _ _ _=>(intOf x).toNat)
 case atStart=>exact⟨n.log.length,Nat.le_refl _,rfl,rfl,rr _⟩
 case round=>
  obtain⟨m,hm,rfl,hq,hRW⟩:=hrel;have vS:NdB wr b n ⟨lo,lc,vo,vc,no,nc,some ⟨mb,mq,none⟩,mc⟩:=vn vB hRW;obtain⟨c0,c1,c2,c3,c4,c5,c6,c7,c8,c9⟩:=cN vS
  by_cases hlow:(m:Int)<=n.commit
  ·rw[M4 n hlow]at hq
   have hlow':¬ n.commit<(m:Int):=by omega
   have hsame:=Z9 hq;have HS:Hid (G5 n=n):=hsame;clear hsame hq;go_wp2;simp[bodyPost,results,Tryz.results62,go_sem];rw[HS.out];exact⟨vS,zY hRW⟩
  obtain⟨k,rfl⟩:∃ k,m=k+1:=⟨m-1,by omega⟩
  have hlow':n.commit<(k:Int)+1:=by omega
  have ek:((k+1:Nat):Int)=(k:Int)+1:=by omega
  rw[ek];clear hlow;have hq:Hid (lH n=A5 n (k+1)):=hq;go_wp2;clear c0 c1 c2 c3 c4 c5 c6 c7 c8 c9
  go_loopw [3,4] (fun x3 x4 wr=>∃ p:Nat,p<=n.mat.length/\x4=.int .i64 (p:Int)/\x3=.int .i64 ((jZ ((k:Int)+1) (n.mat.take p):Nat):Int)/\RB w wr) (fun _ x _=>n.mat.length-(intOf x).toNat)
  case atStart=>exact⟨0,Nat.zero_le _,rfl,rfl,hRW⟩
  case round=>
   obtain⟨p,hpl,rfl,rfl,hR2⟩:=hrel;have vS:NdB wr b n ⟨lo,lc,vo,vc,no,nc,some ⟨mb,mq,none⟩,mc⟩:=vn vB hR2;obtain⟨c0,c1,c2,c3,c4,c5,c6,c7,c8,c9⟩:=cN vS
   by_cases hlt:p<n.mat.length
   ·have hlt1:(p:Int)<n.peers:=by have:=hml.out;omega
    have hltm:(p:Int)<(n.mat.length:Int):=by omega
    have cv:=aB hR2 nl (HV.out p hlt);have hct:=Q2 ((k:Int)+1) n.mat p hlt;have hcb:jZ ((k:Int)+1) (n.mat.take p)<=1048576:=Nat.le_trans (List.countP_le_length ..) (by simp;omega);generalize jZ ((k:Int)+1) (n.mat.take p)=c at hct hcb ⊢;generalize aT n.mat p=x at cv hct;have hwc:IntKind.i64.wrap ((c:Int)+1)=(c:Int)+1:=wi
    have hwp:IntKind.i64.wrap ((p:Int)+1)=(p:Int)+1:=wi
    by_cases hx:(k:Int)+1<=x
    ·rw[if_pos hx]at hct
     have hct:Hid _:=hct;go_wp2
     go_roundw
     case rel=>exact⟨p+1,by omega,by go_num,by rw[hct.out];go_num,hR2⟩
     case measure=>simp[intOf];omega
    ·rw[if_neg hx]at hct
     have hct:Hid _:=hct;go_wp2
     go_roundw
     case rel=>exact⟨p+1,by omega,by go_num,by rw[hct.out];go_num,hR2⟩
     case measure=>simp[intOf];omega
   obtain rfl:p=n.mat.length:=by omega
   have hge:¬ ((n.mat.length:Int)<n.peers):=by have:=hml.out;omega
   rw[List.take_length];obtain⟨cnt,hcnt⟩:∃ c,c=jZ ((k:Int)+1) n.mat:=⟨_,rfl⟩
   have hcl:cnt<=1048576:=by rw[hcnt];exact Nat.le_trans (List.countP_le_length ..) hzm
   rw[<-hcnt];replace hcnt:Hid (cnt=jZ ((k:Int)+1) n.mat):=hcnt
   go_wp2_with fail
   clear c0 c1 c2 c3 c4 c5 c6 c7 c8 c9 hge;have hM2:=(hM.next hR2).l (fun h=>by have:=dE n.log;rw[h]at this;simp at this;omega);obtain⟨g,q,e,_,hcl2⟩:=hM2;simp only at e;subst e;have hrow:=hcl2 _ _ (lO (l:=n.log) (k:=k) (by omega)).1;have hlt2:(k:Int)<(n.log.length:Int):=by omega
   have hk0:(0:Int)<=(k:Int):=by omega
   have htn:(k:Int).toNat=k:=by omega
   have hwk:IntKind.i64.wrap (k:Int)=(k:Int):=wi
   clear hcl2 hM vB HV;have hd:RB wr wr.drew:=(Below.refl _ _).drew;replace hR2:=rt _ _ _ hR2 hd;replace vS:NdB wr.drew b n ⟨some ⟨g,q,none⟩,lc,vo,vc,no,nc,some ⟨mb,mq,none⟩,mc⟩:=vn vS hd;replace hrow:=aB hd nl hrow;clear hd;have hw38:IntKind.i64.wrap (2*(cnt:Int))=(2*(cnt:Int)):=wi
   obtain⟨b43,qb43⟩:∃ b:Bool,b=(decide (n.peers<(2*(cnt:Int)))):=⟨_,rfl⟩
   obtain⟨c7t,hc7t⟩:∃ c:Bool,c=(true&&((b43)==true)):=⟨_,rfl⟩
   have hw50:IntKind.i64.wrap (((k:Int)+1)-1)=(((k:Int)+1)-1):=wi
   obtain⟨b58,qb58⟩:∃ b:Bool,b=(((cL n.log k)==n.term)):=⟨_,rfl⟩
   obtain⟨b59,qb59⟩:∃ b:Bool,b=((b43&&b58)):=⟨_,rfl⟩
   refine bQ (by kernel_rfl) (by kernel_rfl) RB rr rt
    [isV (.int .i64 (cnt:Int)),isV (.int .i64 (2*(cnt:Int))),isV (.pointer (some ⟨b,0,none⟩)),isV (.pointer (some ⟨b,0,none⟩)),isV (.pointer (some ⟨b,1,none⟩)),isV (.int .i64 n.peers),isV (.bool b43),isV (.bool b43),isV (gv c7t (.pointer (some ⟨b,0,none⟩))),isV (gv c7t (.pointer (some ⟨b,0,none⟩))),isV (gv c7t (.pointer (some ⟨b,4,none⟩))),isV (gv c7t (.slice (some ⟨g,q,none⟩) n.log.length lc)),isV (gv c7t (.int .i64 ((k:Int)+1))),isV (gv c7t (.int .i64 (((k:Int)+1)-1))),isV (gv c7t (.pointer (some ⟨g,q+k*2,none⟩))),isV (gv c7t (.pointer (some ⟨g,q+k*2,none⟩))),isV (gv c7t (.int .i64 (cL n.log k))),isV (gv c7t (.pointer (some ⟨b,0,none⟩))),isV (gv c7t (.pointer (some ⟨b,0,none⟩))),isV (gv c7t (.pointer (some ⟨b,2,none⟩))),isV (gv c7t (.int .i64 n.term)),isV (gv c7t (.bool b58)),isV (.bool b59)]
    ⟨iR,iR,iR,iR,iR,iR,iR,iR,iR,iR,iR,iR,iR,iR,iR,iR,iR,iR,iR,iR,iR,iR,iR,trivial⟩ rfl ?_ ?_
   ·refine⟨?_,?_,?_,?_,?_,?_,?_,?_,?_,?_,?_,?_,?_,?_,?_,?_,?_,?_,?_,?_,?_,?_,?_,trivial⟩
    ·exact oq rfl fun ev w9 v hR E pr=>by
      have e1:=E.was 3 _;simp[go_sem,e1,hwk]
    ·exact oq rfl fun ev w9 v hR E pr=>by
      have e1:=E.eq pr 0 37;simp[go_sem,E.con,hw38,e1,hwk]
    ·exact oq rfl fun ev w9 v hR E pr=>by
      have e1:=E.was 0 _;simp[go_sem,e1,hwk]
    ·exact mQ 2 39 hwk
    ·exact mQ 3 40 hwk
    ·exact oq rfl fun ev w9 v hR E pr=>by
      have e1:=E.eq pr 4 41;have cc:=(vS.next hR).cell (j:=1) (by omega);simp[lf]at cc;simp[go_sem,cc,e1,hwk]
    ·exact oq rfl fun ev w9 v hR E pr=>by
      have e1:=E.eq pr 1 38;have e2:=E.eq pr 5 42;simp[go_sem,qb43,e1,e2,hwk]
    ·exact mQ 6 43 hwk
    ·exact gw 7 44 hc7t 0 hwk
    ·exact g1 7 44 hc7t 8 45 hwk
    ·exact g1 7 44 hc7t 9 46 hwk
    ·exact OpOk.gd rr 7 44 true true (b43) (fun _ _ h=>h) c7t hc7t _ (fun _=>rfl) fun ev w9 v hR E pr hC=>by
      have e1:=E.eq pr 10 47;have cc:=(vS.next hR).cell (j:=4) (by omega);simp[lf]at cc;simp[go_sem,gv,hC,hc7t,cc,e1,hwk]
    ·exact gw 7 44 hc7t 2 hwk
    ·exact OpOk.gd rr 7 44 true true (b43) (fun _ _ h=>h) c7t hc7t _ (fun _=>rfl) fun ev w9 v hR E pr hC=>by
      have e1:=E.eq pr 12 49;simp[go_sem,gv,hC,hc7t,E.con,hw50,e1,hwk]
    ·exact OpOk.gd rr 7 44 true true (b43) (fun _ _ h=>h) c7t hc7t _ (fun _=>rfl) fun ev w9 v hR E pr hC=>by
      have e1:=E.eq pr 11 48;have e2:=E.eq pr 13 50;simp[go_sem,gv,hC,hc7t,hlt2,hk0,htn,e1,e2,hwk]
    ·exact g1 7 44 hc7t 14 51 hwk
    ·exact OpOk.gd rr 7 44 true true (b43) (fun _ _ h=>h) c7t hc7t _ (fun _=>rfl) fun ev w9 v hR E pr hC=>by
      have e1:=E.eq pr 15 52;have cc:=aB hR nl hrow;simp[go_sem,gv,hC,hc7t,cc,e1,hwk]
    ·exact gw 7 44 hc7t 0 hwk
    ·exact g1 7 44 hc7t 17 54 hwk
    ·exact g1 7 44 hc7t 18 55 hwk
    ·exact OpOk.gd rr 7 44 true true (b43) (fun _ _ h=>h) c7t hc7t _ (fun _=>rfl) fun ev w9 v hR E pr hC=>by
      have e1:=E.eq pr 19 56;have cc:=(vS.next hR).cell (j:=2) (by omega);simp[lf]at cc;simp[go_sem,gv,hC,hc7t,cc,e1,hwk]
    ·exact OpOk.gd rr 7 44 true true (b43) (fun _ _ h=>h) c7t hc7t _ (fun _=>rfl) fun ev w9 v hR E pr hC=>by
      have e1:=E.eq pr 16 53;have e2:=E.eq pr 20 57;simp[go_sem,gv,hC,hc7t,qb58,e1,e2,hwk]
    ·exact oq rfl fun ev w9 v hR E pr=>by
      have e1:=E.eq pr 7 44;have e2:=E.eq pr 21 58;rcases bq (b43) with hs|hs<;>simp[go_sem,E.con,qb59,gv,hc7t,e1,e2,hs,hwk]
   ·intro v w9 hR hp
    obtain⟨_,_,_,_,_,_,_,_,_,_,_,_,_,_,_,_,_,_,_,_,_,_,p22,_⟩:=hp;replace p22:v 22=.bool b59:=p22;simp only[bF,Nat.zero_add,Nat.reduceAdd,p22,Act.put,sY,sZ,ss]
    have eV:b59=(cL n.log k==n.term&&fM n.peers cnt):=by
     simp only[qb43,qb58,qb59,fM];exact Bool.and_comm _ _
    have hR9:=rt _ _ _ hR2 hR;have v9:NdB w9 b n ⟨some ⟨g,q,none⟩,lc,vo,vc,no,nc,some ⟨mb,mq,none⟩,mc⟩:=vn vS hR;rw[eV]
    have hq2:lH n=if (cL n.log k==n.term&&fM n.peers cnt)=true then (k:Int)+1 else A5 n k:=by
     rw[hq.out,hcnt.out];simp only[A5];rw[if_pos hlow']
    clear eV qb43 qb58 qb59 hq;rcases bq (cL n.log k==n.term&&fM n.peers cnt) with hs|hs
    ·rw[hs]at hq2 ⊢
     rw[if_pos rfl]at hq2;have hq2:Hid (lH n=(k:Int)+1):=hq2;obtain⟨c0,c1,c2,c3,c4,c5,c6,c7,c8,c9⟩:=cN v9
     go_wp2_with (first|((with_reducible refine cG rfl 2 (.tmp 63) (.tmp 61) rfl rfl (b) 6 (.int .i64 ((k:Int)+1)) (by simp[go_sem]) (by simp[go_sem]) (G5 n) (⟨some ⟨g,q,none⟩,lc,vo,vc,no,nc,some ⟨mb,mq,none⟩,mc⟩) v9 (by omega) (by kernel_rfl) (by kernel_rfl) (dT (by kernel_rfl)) (by simp[G5,hq2.out]) ?_);intro W5 v5 g5)|fail)
     simp[bodyPost,results,Tryz.results62,go_sem];exact⟨v5,(zY hR9).trans g5⟩
    ·rw[hs]at hq2 ⊢
     rw[if_neg (by simp)]at hq2;have hq2:Hid (lH n=A5 n k):=hq2;go_wp2
     go_roundw
     case rel=>exact⟨k,by omega,by first|rfl|go_num,hq2.out,hR9⟩
     case measure=>first|(simp[intOf];omega)|(simp[intOf];done)
def dY(x:Int)(n c:Nat):List Value:=List.replicate n (.int .i64 x)++List.replicate (c-n) (.int .i64 0)
theorem B8(x:Int){n c:Nat}(h:n<=c):(dY x n c).length=c:=by simp[dY];omega
theorem S3(x:Int){n c k:Nat}(h:n+k<=c):(dY x n c).take n++(List.replicate k (.int .i64 x)++(dY x n c).drop (n+k))=dY x (n+k) c:=by
 have e1:(dY x n c).take n=List.replicate n (.int .i64 x):=by
  have:=List.take_left (l₁ := List.replicate n (Value.int .i64 x)) (l₂ := List.replicate (c-n) (Value.int .i64 0));rw[List.length_replicate]at this;exact this
 have e2:(dY x n c).drop (n+k)=List.replicate (c-(n+k)) (.int .i64 0):=by
  have:=List.drop_left (l₁ := List.replicate n (Value.int .i64 x)) (l₂ := List.replicate (c-n) (Value.int .i64 0));rw[List.length_replicate]at this;rw[<-List.drop_drop];unfold dY;rw[this,List.drop_replicate]
  congr 1
  omega
 rw[e1,e2,<-List.append_assoc,List.replicate_append_replicate];rfl
theorem CL(x:Int){n c j:Nat}(h:j<n):(dY x n c)[j]?=some (.int .i64 x):=by
 unfold dY;rw[List.getElem?_append_left (by simpa using h),List.getElem?_replicate,if_pos h]
theorem N2{w:World}{x:Int}{g n c k:Nat}(ty:TypeId)(dLen dCap:Nat)(ad:Addr)(sLen sCap:Nat)(hg:w.heap[g]?=some (.cells (dY x n c).toArray 2 (0,0)))(hk:k=Nat.min sLen dLen)(hnk:n+k<=c)
  (hsrc:∀ j,j<k->w.cell? (ad.add j)=some (.int .i64 x)):(Builtin.copy_ #[25,25] ty #[.slice (some ⟨g,n,none⟩) dLen dCap,.slice (some ad) sLen sCap]).run Tryz.prog w=.ok (goInt k) (w.setRow g (dY x (n+k) c).toArray):=by
 have hsz:(Tryz.prog.info? 2).map (·.size)=some 1:=by kernel_rfl
 have hl:(List.replicate k (Value.int .i64 x)).length=k:=List.length_replicate
 have hrun:=run_copy_row (P:=Tryz.prog) w 25 25 ty 2 g n dLen dCap ad sLen sCap (dY x n c).toArray 2 (List.replicate k (.int .i64 x)) Tryz.underlying25 hsz hg (by rw[hl];exact hk)
  (fun j v hj=>by
   rw[List.getElem?_replicate]at hj
   split at hj
   ·rename_i hjk
    rw[hsrc j hjk];exact hj
   ·cases hj) (by rw[hl,List.size_toArray,B8 x (by omega)];exact hnk) (fun v hv=>by rw[(List.mem_replicate.mp hv).2];rfl)
 have e:(dY x n c).toArray.toList.take n++List.replicate k (.int .i64 x)++(dY x n c).toArray.toList.drop (n+(List.replicate k (Value.int .i64 x)).length)=dY x (n+k) c:=by
  rw[hl,List.append_assoc];exact S3 x hnk
 rw[hrun,e,hl]
theorem EB{w:World}{o:Oper}{a:Act}{R:Act->World->Prop}{Q:Exit->Act->World->Prop}(d s:Operand)(ho:o.op=.call { callee:=.builtin .copy,args:=#[d,s],argTypes:=#[25,25] })(dd:Option Tmp)(hdd:o.dst=dd)
  {x:Int} {g n c:Nat} (k dLen dCap:Nat) (ad:Addr) (sLen sCap:Nat) (hd:a.eval d=.slice (some ⟨g,n,none⟩) dLen dCap) (hs:a.eval s=.slice (some ad) sLen sCap)
  (hg:w.heap[g]?=some (.cells (dY x n c).toArray 2 (0,0))) (hk:k=Nat.min sLen dLen) (hnk:n+k<=c) (hsrc:∀ j,j<k->w.cell? (ad.add j)=some (.int .i64 x))
  (h:R (a.put dd (goInt k)) (w.setRow g (dY x (n+k) c).toArray)):Oper.wp Tryz.prog o a w R Q:=by
 have hrun:=N2 o.type dLen dCap ad sLen sCap hg hk hnk hsrc;subst hdd;unfold Oper.wp;simp[execOp,ho,resolve,invoke,builtin,hd,hs,hrun,Result.andThen];exact h
def CU(x:Int)(c:Nat)(w w':World)(e:Ending):Prop:=∃ g,e=.returned (.slice (some ⟨g,0,none⟩) c c)/\OwI w' w.heap.size (some ⟨g,0,none⟩) c (List.replicate c x)/\RB w w'
theorem N3{w:World}{x:Int}{g c base:Nat}(hc:c<=1048576)(hb:base<=g)(h:w.heap[g]?=some (.cells (dY x c c).toArray 2 (0,0))):OwI w base (some ⟨g,0,none⟩) c (List.replicate c x):=by
 have e0:dY x c c=cU (List.replicate c x):=by simp[dY,cU]
 unfold OwI GOwn;rw[List.length_replicate];refine⟨by rw[bR],.inr ⟨g,c,_,rfl,hb,h,Nat.le_refl _,by unfold maxLen;omega,by simp[B8],?_⟩⟩;rw[e0];have hl:(cU (List.replicate c x)).length=c*1:=by rw[cO,List.length_replicate,Nat.mul_one]
 refine List.ext_getElem? (fun j=>?_)
 by_cases hj:j<c*1
 ·rw[dH hj]
  have h2:j<(cU (List.replicate c x)).length:=by omega
  simp[lf,List.getD_eq_getElem?_getD,h2];rw[List.getElem?_take,if_pos (by omega),List.getElem?_eq_getElem h2]
 ·rw[List.getElem?_eq_none (by simp[hl];omega),List.getElem?_eq_none (by rw[bR];omega)]
theorem B9(x:Int)(c:Nat)(hc:1<=c)(hc2:c<=1048576)(b o cp:Nat)(w:World)(hr:w.cell? ⟨b,o,none⟩=some (.int .i64 x)):Calls Tryz.prog 90 #[.slice (some ⟨b,o,none⟩) 1 cp,.int .i64 (c:Int)] w fun e w'=>CU x c w w' e:=by
 have hwu:IntKind.u64.wrap (c:Int)=(c:Int):=by rw[IntKind.wrap_u64];omega
 have hwi:IntKind.i64.wrap (c:Int)=(c:Int):=wi
 have hneg:¬ (c:Int)<0:=by omega
 have hbig:¬ (9223372036854775807:Int)<(c:Int):=by omega
 have hmk:=vH c hc2;have hm1:Hid (1=Nat.min 1 c):=by show _ = _;simp[Nat.min_def];omega
 go_enter Tryz.func90,Tryz.ntmps90
 go_wp2_with fail
 refine (Tryz.bits_Mul 1 c (by omega) (by omega) _).mono ?_;rintro e w1 ⟨rfl,hw1⟩;replace hw1:=hw1.symm;subst hw1;rw[show 1*c / 18446744073709551616=0 by omega,show 1*c%18446744073709551616=c by omega];have hal:=ra w (.cells (madeCells #[.int .i64 0] c) 2)
 have hg0:(w.alloc (.cells (madeCells #[.int .i64 0] c) 2)).heap[w.heap.size]?=some (.cells (dY x 0 c).toArray 2 (0,0)):=by
  have e:madeCells #[.int .i64 0] c=(dY x 0 c).toArray:=by
   apply Array.toList_inj.mp;rw[toList_madeCells_one];simp[dY]
  rw[e];exact heap_alloc_new w _
 have hr1:=aB hal nl hr;have H0:Hid ((w.alloc (.cells (madeCells #[.int .i64 0] c) 2)).heap[w.heap.size]?=some (.cells (dY x 0 c).toArray 2 (0,0))):=hg0;clear hg0
 have hsrc0:∀ j,j<1->(w.alloc (.cells (madeCells #[.int .i64 0] c) 2)).cell? ((⟨b,o,none⟩:Addr).add j)=some (.int .i64 x):=fun j hj=>by
  have:j=0:=by omega
  subst this;rw[show (⟨b,o,none⟩:Addr).add 0=⟨b,o,none⟩ from rfl];exact hr1
 obtain⟨W1,hW1⟩:∃ W1,W1=(w.alloc (.cells (madeCells #[.int .i64 0] c) 2)).setRow w.heap.size (dY x (0+1) c).toArray:=⟨_,rfl⟩
 have hcp:=N2 3 c c ⟨b,o,none⟩ 1 cp H0.out hm1.out (by omega) hsrc0;rw[<-hW1]at hcp;replace hW1:Hid (W1=(w.alloc (.cells (madeCells #[.int .i64 0] c) 2)).setRow w.heap.size (dY x (0+1) c).toArray):=hW1;go_wp2;have hgg:=hal.size
 have H1:Hid (W1.heap[w.heap.size]?=some (.cells (dY x 1 c).toArray 2 (0,0))):=by
  have e:=setRow_heap _ w.heap.size _ (dY x (0+1) c).toArray _ _ H0.out;rw[<-hW1.out]at e;exact e
 have hb:RB w W1:=by rw[hW1.out];exact below_setRow hal nl _
 clear hW1 H0 hsrc0 hr1 hal hmk hm1 hgg hcp
 go_loopw [8] (fun x8 wr=>∃ n:Nat,1<=n/\n<=c/\x8=.int .i64 (n:Int)/\Hid (wr.heap[w.heap.size]?=some (.cells (dY x n c).toArray 2 (0,0)))/\RB w wr) (fun y _=>c-(intOf y).toNat)
 case atStart=>exact⟨1,Nat.le_refl _,hc,rfl,H1,hb⟩
 case round=>
  obtain⟨n,hn1,hnc,rfl,HN,hRW⟩:=hrel;clear H1 hb
  by_cases hlt:n<c
  rotate_left
  ·have e:n=c:=by omega
   subst e;go_wp2;go_ret;exact⟨_,rfl,N3 hc2 nl HN.out,hRW⟩
  have hlt':(n:Int)<(c:Int):=by omega
  go_wp2_with fail
  have hn0:(0:Int)<=(n:Int):=by omega
  have hle:(n:Int)<=(c:Int):=by omega
  have htn:(n:Int).toNat=n:=by omega
  have hcn:(c:Int).toNat=c:=by omega
  have hnn:¬ n=c:=by omega
  have hnn':¬ c=n:=by omega
  have hlen:n<=c:=by omega
  have hS0:True:=trivial;have HD:Hid (wr.drew.heap[w.heap.size]?=some (.cells (dY x n c).toArray 2 (0,0))):=HN;have hRD:RB w wr.drew:=Below.drew hRW;have hkk:Nat.min n (c-n)<=c-n:=Nat.min_le_right _ _;have hk1:1<=Nat.min n (c-n):=by show 1<=min n (c-n);omega
  have hkn:Nat.min n (c-n)<=n:=Nat.min_le_left _ _;refine wp_region_held_drew (S:=fun _=>True) (by kernel_rfl) hS0 (fun hS=>?_);refine tK 0 (some 38) (.int .i64 (n:Int)) rfl rfl hS (fun w3 hS3=>by go_simp) ?_;simp only[pS];refine tK 1 (some 39) (.slice (some ⟨w.heap.size,0,none⟩) c c) rfl rfl hS (fun w3 hS3=>by go_simp) ?_;simp only[pS];refine tK 2 (some 40) (.int .i64 (n:Int)) rfl rfl hS (fun w3 hS3=>by go_simp) ?_;simp only[pS];refine tK 3 (some 41) (.slice (some ⟨w.heap.size,n,none⟩) (c-n) (c-n)) rfl rfl hS (fun w3 hS3=>by go_simp) ?_;simp only[pS];refine tK 4 (some 42) (.slice (some ⟨w.heap.size,0,none⟩) c c) rfl rfl hS (fun w3 hS3=>by go_simp) ?_;simp only[pS];refine tK 5 (some 43) (.int .i64 (n:Int)) rfl rfl hS (fun w3 hS3=>by go_simp) ?_;simp only[pS];refine tK 6 (some 44) (.slice (some ⟨w.heap.size,0,none⟩) n c) rfl rfl hS (fun w3 hS3=>by go_simp) ?_;simp only[pS];refine cZ 7 _ rfl (by kernel_rfl) (by rfl) ?_;refine EB (.tmp 41) (.tmp 44) rfl (some 45) rfl (Nat.min n (c-n)) (c-n) (c-n) ⟨w.heap.size,0,none⟩ n c rfl rfl HD.out rfl (by omega) (fun j hj=>?_) ⟨trivial,?_⟩
  ·have hjn:j<n:=by omega
   have e:(⟨w.heap.size,0,none⟩:Addr).add j=⟨w.heap.size,0+j,none⟩:=by simp[Addr.add];omega
   rw[e,Nat.zero_add];have h5:=HD.out;have h6:=CL x (c:=c) hjn;simp[World.cell?,h5,h6]
  have H2:=setRow_heap _ w.heap.size _ (dY x (n+Nat.min n (c-n)) c).toArray _ _ HD.out;have hR2:RB w (wr.drew.setRow w.heap.size (dY x (n+Nat.min n (c-n)) c).toArray):=below_setRow hRD nl _;generalize wr.drew.setRow w.heap.size (dY x (n+Nat.min n (c-n)) c).toArray=W2 at H2 hR2 ⊢;replace H2:Hid (W2.heap[w.heap.size]?=some (.cells (dY x (n+Nat.min n (c-n)) c).toArray 2 (0,0))):=H2;clear HD HN hRD hRW hS0;generalize Nat.min n (c-n)=k at H2 hkk hk1 hkn ⊢;have hw:IntKind.i64.wrap ((n:Int)+(k:Int))=((n+k:Nat):Int):=wi
  simp only[Act.put,sY,sZ,ss];refine tK 8 (some 46) (.int .i64 ((n+k:Nat):Int)) rfl rfl hS (fun w3 hS3=>by (try unfold goInt);simp[go_sem,hw]) ?_;simp only[pS];refine tK 9 (some 8) (.int .i64 ((n+k:Nat):Int)) rfl rfl hS (fun w3 hS3=>by go_simp) ?_;simp only[pS];refine wpAnyH_done (by kernel_rfl) ?_ _;go_wp2
  go_roundw
  case rel=>exact⟨n+k,by omega,by omega,rfl,H2,hR2⟩
  case measure=>simp[intOf];omega
end
section
def ag(f:Nat->Bool):Nat->Nat
 | 0=>0
 | m+1=>if ag f m=m then (if f m=true then m+1 else m) else ag f m
theorem M8(f:Nat->Bool):∀ m,ag f m<=m
 | 0=>Nat.le_refl _
 | m+1=>by
  have:=M8 f m;unfold ag
  split
  ·split<;>omega
  ·omega
theorem I8(f:Nat->Bool):∀ m j,j<ag f m->f j=true
 | 0,j,h=>by simp[ag]at h
 | m+1,j,h=>by
  have ih:=I8 f m;unfold ag at h
  split at h
  ·rename_i e
   split at h
   ·rename_i hf
    by_cases hj:j=m
    ·rw[hj];exact hf
    ·exact ih j (by omega)
   ·exact ih j (by omega)
  ·exact ih j h
theorem CS(f:Nat->Bool):∀ m,ag f m<m->f (ag f m)=false
 | 0,h=>by omega
 | m+1,h=>by
  have ih:=CS f m;have hl:=M8 f m;unfold ag at h ⊢
  split at h
  ·rename_i e
   split at h
   ·omega
   ·rename_i hf
    rw[if_pos e,if_neg hf];simpa using hf
  ·rename_i e
   rw[if_neg e];exact ih (by omega)
theorem CT{f:Nat->Bool}{m k:Nat}(hk:k<=m)(hy:∀ j,j<k->f j=true)(hn:k<m->f k=false):ag f m=k:=by
 have h1:=M8 f m;rcases Nat.lt_trichotomy (ag f m) k with h|h|h
 ·have:=CS f m (by omega)
  rw[hy _ h]at this;cases this
 ·exact h
 ·have:=I8 f m k h
  rw[hn (by omega)]at this;cases this
def M9(n:Nat)(T U:Nat->Int)(i k:Nat):Bool:=decide (i+k<n/\T (i+k)=U k)
def iL(n:Nat)(T:Nat->Int)(i m:Nat)(U:Nat->Int):Nat:=ag (M9 n T U i) m
def nY{α : Type}(k i:Nat)(T U:Nat->α)(j:Nat):α := if j<i+k then T j else U (j-i)
def mN(n i m k:Nat):Nat:=if k<m then i+m else n
def mV{α : Type}(m k i:Nat)(T U:Nat->α):Nat->α := if k<m then nY k i T U else T
theorem nA{n i m k:Nat}(h:k<m):mN n i m k=i+m:=if_pos h
theorem N1{n i m k:Nat}(h:¬ k<m):mN n i m k=n:=if_neg h
theorem iD{α : Type}{m k i:Nat}{T U:Nat->α}(h:k<m):mV m k i T U=nY k i T U:=if_pos h
theorem tL{α : Type}{m k i:Nat}{T U:Nat->α}(h:¬ k<m):mV m k i T U=T:=if_neg h
theorem DV(n:Nat)(T:Nat->Int)(i m:Nat)(U:Nat->Int):iL n T i m U<=m:=M8 _ _
theorem yJ{n:Nat}{T:Nat->Int}{i m:Nat}{U:Nat->Int}(hi:i<=n):i+iL n T i m U<=n:=by
 rcases Nat.eq_zero_or_pos (iL n T i m U) with h|h
 ·omega
 ·have:=I8 (M9 n T U i) m (iL n T i m U-1) (by unfold iL at h ⊢;omega)
  have h2:=of_decide_eq_true this;omega
end
section
open Go.RowKit
attribute [local go_sem ↓] Go.wp_at_zero Go.wp_at_succ
def jQ(n:Nat)(T:Nat->Int)(i t:Int):Bool:=decide (0<=i/\i<=n/\dR i.toNat T=t)
abbrev vE(a:Addr):Value:=.iface 199 (.pointer (some a))
theorem wH(ao:Option Addr)(n cap:Nat)(T:Nat->Int)(X:Nat->ByteArray)(i:Int)(hn:n<=9223372036854775807)(hc:n<=cap)(h0:0<=i)(h1:i<=n)(w:World)(hr:NRow w ao n T X):
  Calls Tryz.prog 121 #[.slice ao n cap,.int .i64 i] w fun e w'=>e=.returned (.tuple #[.int .i64 (dR i.toNat T),.nilIface])/\w'=w:=by
 obtain⟨k,rfl⟩:∃ k:Nat,i=k:=⟨i.toNat,by omega⟩
 simp only[Int.toNat_natCast];have hl:k<=n:=by omega
 have hL:=fun ao' cap' W h=>fH ao' k cap' T X (by omega) W h
 have hrk:=hr.less hl;generalize dR k T=q at hL ⊢;have h2:¬ (k:Int)<0:=by omega
 have h3:¬ (n:Int)<(k:Int):=by omega
 go_enter Tryz.func121,Tryz.ntmps121
 go_wp2_with fail
 refine (hL _ _ _ hrk).mono ?_;rintro e w1 ⟨rfl,hq⟩;have hq':=hq.symm;subst hq';clear hq;go_wp2;exact bodyPost_ret (v:=.tuple #[.int .i64 q,.nilIface]) (by simp[results,Tryz.results121,go_sem]) rfl ⟨rfl,rfl⟩
theorem sV(ao:Option Addr)(n cap:Nat)(i:Int)(a:Addr)(hn:n<=9223372036854775807)(h:i<0\/(n:Int)<i)(w:World)(hV:w.cell? ⟨1,0,none⟩=some (vE a)):
  Calls Tryz.prog 121 #[.slice ao n cap,.int .i64 i] w fun e w'=>e=.returned (.tuple #[.int .i64 0,BF i a])/\Below w.heap.size w w':=by
 by_cases h1:i<0
 ·go_enter Tryz.func121,Tryz.ntmps121
  go_wp2
  go_quiet (fail)
  go_wp2;exact bodyPost_ret (v:=.tuple #[.int .i64 0,BF i a]) (by simp[results,Tryz.results121,go_sem]) rfl ⟨rfl,below_drewN (Below.refl _ _) _⟩
 ·have h2:(n:Int)<i:=by omega
  go_enter Tryz.func121,Tryz.ntmps121;go_wp2
  go_quiet (fail)
  go_wp2;exact bodyPost_ret (v:=.tuple #[.int .i64 0,BF i a]) (by simp[results,Tryz.results121,go_sem]) rfl ⟨rfl,below_drewN (Below.refl _ _) _⟩
theorem lY(ao:Option Addr)(n cap:Nat)(T:Nat->Int)(X:Nat->ByteArray)(i t:Int)(aE aO:Addr)(hn:n<=9223372036854775807)(hc:n<=cap)(w:World)(hr:NRow w ao n T X)
  (hE:w.cell? ⟨1,0,none⟩=some (vE aE)) (hO:w.cell? ⟨2,0,none⟩=some (vE aO)):
  Calls Tryz.prog 120 #[.slice ao n cap,.int .i64 i,.int .i64 t] w fun e w'=>(jQ n T i t=true/\e=.returned .nilIface\/jQ n T i t=false/\∃ a,e=.returned (BF i a))/\Below w.heap.size w w':=by
 by_cases h:i<0\/(n:Int)<i
 ·have hf:jQ n T i t=false:=decide_eq_false (by omega)
  rw[hf];have hA:=fun W h1=>sV ao n cap i aE hn h W h1
  go_enter Tryz.func120,Tryz.ntmps120
  go_wp2_with fail
  refine (hA _ hE).mono ?_;rintro e w1 ⟨rfl,hb1⟩;go_wp2;go_ret;exact⟨Or.inr ⟨trivial,_,rfl⟩,hb1⟩
 have hA:=fun W h1=>wH ao n cap T X i hn hc (by omega) (by omega) W h1
 by_cases ht:dR i.toNat T=t
 ·have hf:jQ n T i t=true:=decide_eq_true ⟨by omega,by omega,ht⟩
  rw[hf];rw[ht]at hA;go_enter Tryz.func120,Tryz.ntmps120
  go_wp2_with fail
  refine (hA _ hr).mono ?_;rintro e w1 ⟨rfl,hq⟩;have hq':=hq.symm;subst hq';clear hq;go_wp2;go_ret;exact⟨Or.inl ⟨trivial,rfl⟩,Below.refl _ _⟩
 ·have hf:jQ n T i t=false:=decide_eq_false (by omega)
  rw[hf];generalize dR i.toNat T=q at hA ht;go_enter Tryz.func120,Tryz.ntmps120
  go_wp2_with fail
  refine (hA _ hr).mono ?_;rintro e w1 ⟨rfl,hq⟩;have hq':=hq.symm;subst hq';clear hq;go_wp2;go_ret;exact⟨Or.inr ⟨trivial,_,rfl⟩,by first|exact Below.refl _ _|exact below_drewN (Below.refl _ _) _⟩
end
section
open Go.RowKit Go.Extern.Stop Go.Stop Go.Extern
theorem DD(t:Value)(w:World):
  Calls Tryz.prog 130 #[.nilIface,t] w fun e w'=>e=.returned (.bool false)/\w'=w:=by
 go_enter Tryz.func130,Tryz.ntmps130;go_wp2;go_ret;exact⟨rfl,rfl⟩
def V5:Array Value->Sem Value:=ReflectliteType.abiMethod fun t=>do pure (.int .u8 (← Rtype.kind t))
abbrev lZ(t:Nat):Value:=.pointer (some ⟨4,t,none⟩)
theorem Tryz.valueOfP(t:Addr)(w:World):(ReflectliteValue.unpack (.iface 169 (.pointer (some t)))).run Tryz.prog w
  = .ok (.agg #[lZ 169,.pointer (some ⟨w.heap.size,0,none⟩),.int .u64 150]) (w.alloc (.cells #[.pointer (some t)] 169)):=by kernel_rfl
theorem Tryz.typeP(a:Addr)(w:World):(ReflectliteValue.methodAny (ReflectliteValue.valueError "reflectlite.Value.Type" 0) (fun t _ _ _=>ReflectliteType.toType t) #[.agg #[lZ 169,.pointer (some a),.int .u64 150]]).run Tryz.prog w
  = .ok (.iface 172 (.agg #[lZ 169])) w:=by kernel_rfl
theorem Tryz.methodKind(h:Value)(w:World):(Go.method 342 172 (.agg #[h]) "Kind").run Tryz.prog w=.ok (156,h) w:=by kernel_rfl
theorem Tryz.kindP(w:World):(V5 #[lZ 169]).run Tryz.prog w=.ok (.int .u8 22) w:=by kernel_rfl
theorem Tryz.kindS(w:World):(V5 #[lZ 152]).run Tryz.prog w=.ok (.int .u8 25) w:=by kernel_rfl
theorem EU(z:Sem Value)(f:TypeId->Addr->Nat->Nat->Sem Value)(v:Value):
  ReflectliteValue.method z f #[v]=(do match ← ReflectliteValue.parts v with|none=>z|some (t,a,fl)=>f t a fl (fl%32)):=rfl
theorem Tryz.partsP(a:Addr)(w:World):(ReflectliteValue.parts (.agg #[lZ 169,.pointer (some a),.int .u64 150])).run Tryz.prog w=.ok (some (169,a,150)) w:=by kernel_rfl
theorem Tryz.isNilP(a p:Addr)(W:World)(ha:W.cell? a=some (.pointer (some p))):
  (ReflectliteValue.method (ReflectliteValue.valueError "reflectlite.Value.IsNil" 0) ReflectliteValue.isNil #[.agg #[lZ 169,.pointer (some a),.int .u64 150]]).run Tryz.prog W=.ok (.bool false) W:=by
 rw[EU];simp only[Sem.run_bind,Tryz.partsP,Result.andThen];simp[ReflectliteValue.isNil,loadVar,isAgg,underlying,Tryz.underlying169,ha,Result.andThen]
theorem Tryz.methodElem(h:Value)(w:World):(Go.method 342 172 (.agg #[h]) "Elem").run Tryz.prog w=.ok (167,.agg #[h]) w:=by kernel_rfl
theorem Tryz.methodImplements(h:Value)(w:World):(Go.method 342 172 (.agg #[h]) "Implements").run Tryz.prog w=.ok (168,.agg #[h]) w:=by kernel_rfl
theorem Tryz.methodAssignableTo(h:Value)(w:World):(Go.method 342 172 (.agg #[h]) "AssignableTo").run Tryz.prog w=.ok (165,.agg #[h]) w:=by kernel_rfl
theorem Tryz.elemP(w:World):(ReflectliteType.method ReflectliteType.elem #[.agg #[lZ 169]]).run Tryz.prog w=.ok (.iface 172 (.agg #[lZ 152])) w:=by kernel_rfl
theorem Tryz.implementsS(w:World):(ReflectliteType.relation "Implements" ReflectliteType.implements_ #[.agg #[lZ 152],.iface 172 (.agg #[lZ 127])]).run Tryz.prog w=.ok (.bool true) w:=by kernel_rfl
theorem Tryz.typeOfS(v:Value)(w:World):(ReflectliteType.typeOf #[.iface 152 v]).run Tryz.prog w=.ok (.iface 172 (.agg #[lZ 152])) w:=by kernel_rfl
theorem Tryz.assignableS(w:World):(ReflectliteType.relation "AssignableTo" ReflectliteType.assignableTo #[.agg #[lZ 152],.iface 172 (.agg #[lZ 152])]).run Tryz.prog w=.ok (.bool true) w:=by kernel_rfl
theorem Tryz.valueOfS(k:Int)(a:Addr)(w:World):(ReflectliteValue.unpack (BF k a)).run Tryz.prog w
  = .ok (.agg #[lZ 152,.pointer (some ⟨w.heap.size,0,none⟩),.int .u64 153]) (w.alloc (.cells #[.int .i64 k,.iface 199 (.pointer (some a))] 152)):=by kernel_rfl
theorem Tryz.elemOfP(w:World):(Rtype.elem? 169).run Tryz.prog w=.ok (some 152) w:=by kernel_rfl
theorem Tryz.mkS(p:Addr)(w:World):(ReflectliteValue.mk 152 p ReflectliteValue.flagAddr).run Tryz.prog w=.ok (.agg #[lZ 152,.pointer (some p),.int .u64 409]) w:=by kernel_rfl
theorem Tryz.elemVP(a p:Addr)(W:World)(ha:W.cell? a=some (.pointer (some p))):
  (ReflectliteValue.method (ReflectliteValue.valueError "reflectlite.Value.Elem" 0) ReflectliteValue.elem #[.agg #[lZ 169,.pointer (some a),.int .u64 150]]).run Tryz.prog W
   = .ok (.agg #[lZ 152,.pointer (some p),.int .u64 409]) W:=by
 rw[EU];simp only[Sem.run_bind,Tryz.partsP,Result.andThen];simp[ReflectliteValue.elem,loadVar,isAgg,underlying,Tryz.underlying169,ha,Result.andThen,Tryz.elemOfP,Tryz.mkS]
theorem FP(v x:Value):ReflectliteValue.set #[v,x]=(do
  let (some (dst,a,fl),some (src,b,_)):=(← ReflectliteValue.parts v,<-ReflectliteValue.parts x)
   | unsupported (.noEntry "extern/(internal/reflectlite.Value).Set.zeroValue")
  if fl / ReflectliteValue.flagAddr%2==0 then unsupported (.noEntry "extern/(internal/reflectlite.Value).Set.unaddressable")
  let val ← loadVar src b
  if ← Rtype.directlyAssignable dst src then storeVar dst a val
  else if ← Rtype.implements dst src then
   if (← Rtype.kind src)==20 then
    match val with
    | .nilIface=>unsupported (.noEntry "extern/reflectlite: a nil value of one interface type handed on as a value of another")
    | _=>storeVar dst a val
   else storeVar dst a (.iface src val)
  else panicString ("reflectlite.Set: value of type " ++ (← Rtype.spelt src) ++ " is not assignable to type " ++ (← Rtype.spelt dst))
  pure (.tuple #[])):=rfl
theorem Tryz.partsSa(a:Addr)(w:World):(ReflectliteValue.parts (.agg #[lZ 152,.pointer (some a),.int .u64 409])).run Tryz.prog w=.ok (some (152,a,409)) w:=by kernel_rfl
theorem Tryz.partsS(a:Addr)(w:World):(ReflectliteValue.parts (.agg #[lZ 152,.pointer (some a),.int .u64 153])).run Tryz.prog w=.ok (some (152,a,153)) w:=by kernel_rfl
theorem Tryz.directS(w:World):(Rtype.directlyAssignable 152 152).run Tryz.prog w=.ok true w:=by kernel_rfl
theorem Tryz.sizeS(w:World):(sizeOf 152).run Tryz.prog w=.ok 2 w:=by kernel_rfl
theorem Tryz.aggS(w:World):(isAgg 152).run Tryz.prog w=.ok true w:=by kernel_rfl
theorem Tryz.setS(tb b:Nat)(v0 v1 o0 o1:Value)(W:World)(h0:v0.oneCell'=true)(h1:v1.oneCell'=true)(hb0:W.cell? ⟨b,0,none⟩=some v0)(hb1:W.cell? ⟨b,1,none⟩=some v1)(ht:W.heap[tb]?=some (.cells #[o0,o1] 152 (0,0))):
  (ReflectliteValue.set #[.agg #[lZ 152,.pointer (some ⟨tb,0,none⟩),.int .u64 409],.agg #[lZ 152,.pointer (some ⟨b,0,none⟩),.int .u64 153]]).run Tryz.prog W
   = .ok (.tuple #[]) (W.setRow tb #[v0,v1]):=by
 have hl:=run_loadCells (P:=Tryz.prog) W ⟨b,0,none⟩ 2 (fun j=>if j=0 then v0 else v1) (fun j hj=>by
  have:j=0\/j=1:=by omega
  rcases this with rfl|rfl
  ·simpa[Addr.add] using hb0
  ·simpa[Addr.add] using hb1)
 have hs:=run_storeCells_at (P:=Tryz.prog) tb 0 152 [v0,v1] 0 _ W ht (by simp) (by simp[h0,h1]);simp at hs;rw[FP];simp only[Sem.run_bind,Tryz.partsSa,Tryz.partsS,Result.andThen];simp[ReflectliteValue.flagAddr,loadVar,Tryz.aggS,Tryz.sizeS,hl,Result.andThen,Tryz.directS,storeVar,Value.cells,List.range,List.range.loop,hs]
theorem xP{W:World}{tb:Nat}(cs:Array Value):Below tb W (W.setRow tb cs):=
 ⟨rfl,rfl,rfl,by simp[World.setRow],fun k hk=>by
  have:tb≠k:=by omega
  simp[World.setRow,Array.getElem?_modify,this]⟩
theorem zR{W:World}{tb j:Nat}{c cs:Array Value}{t:TypeId}{fr:Nat × Nat}{v:Value}(h:W.heap[tb]?=some (.cells c t fr))(hv:cs[j]?=some v):(W.setRow tb cs).cell? ⟨tb,j,none⟩=some v:=by
 simp[World.cell?,World.setRow,Array.getElem?_modify,h,hv]
theorem DE(k:Int)(a:Addr)(tb:Nat)(o0 o1:Value)(w:World)(hg:w.cell? ⟨3,0,none⟩=some (.iface 172 (.agg #[lZ 127])))(ht:w.heap[tb]?=some (.cells #[o0,o1] 152 (0,0))):
  Calls Tryz.prog 130 #[BF k a,.iface 169 (.pointer (some ⟨tb,0,none⟩))] w fun e w'=>e=.returned (.bool true)/\w'.cell? ⟨tb,0,none⟩=some (.int .i64 k)/\Below tb w w':=by
 have h6:=@run_callFunc_extern Tryz.prog 134 _ (fun args=>ReflectliteValue.unpack (args.getD 0 (.tuple #[]))) Tryz.func134 (by kernel_rfl) (by kernel_rfl) (by kernel_rfl) (by kernel_rfl)
 have h7:=@run_callFunc_extern Tryz.prog 135 _ (ReflectliteValue.methodAny (ReflectliteValue.valueError "reflectlite.Value.Type" 0) (fun t _ _ _=>ReflectliteType.toType t)) Tryz.func135 (by kernel_rfl) (by kernel_rfl) (by kernel_rfl) (by kernel_rfl)
 have h8:=@run_callFunc_extern Tryz.prog 136 _ (ReflectliteValue.method (ReflectliteValue.valueError "reflectlite.Value.IsNil" 0) ReflectliteValue.isNil) Tryz.func136 (by kernel_rfl) (by kernel_rfl) (by kernel_rfl) (by kernel_rfl)
 have h27:=@run_callFunc_extern Tryz.prog 156 _ V5 Tryz.func156 (by kernel_rfl) (by kernel_rfl) (by kernel_rfl) (by kernel_rfl);have h37:=@run_callFunc_extern Tryz.prog 167 _ (ReflectliteType.method ReflectliteType.elem) Tryz.func167 (by kernel_rfl) (by kernel_rfl) (by kernel_rfl) (by kernel_rfl)
 have h38:=@run_callFunc_extern Tryz.prog 168 _ (ReflectliteType.relation "Implements" ReflectliteType.implements_) Tryz.func168 (by kernel_rfl) (by kernel_rfl) (by kernel_rfl) (by kernel_rfl)
 have h10:=@run_callFunc_extern Tryz.prog 123 _ ReflectliteType.typeOf Tryz.func123 (by kernel_rfl) (by kernel_rfl) (by kernel_rfl) (by kernel_rfl)
 have h35:=@run_callFunc_extern Tryz.prog 165 _ (ReflectliteType.relation "AssignableTo" ReflectliteType.assignableTo) Tryz.func165 (by kernel_rfl) (by kernel_rfl) (by kernel_rfl) (by kernel_rfl)
 have h11:=@run_callFunc_extern Tryz.prog 140 _ (ReflectliteValue.method (ReflectliteValue.valueError "reflectlite.Value.Elem" 0) ReflectliteValue.elem) Tryz.func140 (by kernel_rfl) (by kernel_rfl) (by kernel_rfl) (by kernel_rfl)
 have h12:=@run_callFunc_extern Tryz.prog 141 _ ReflectliteValue.set Tryz.func141 (by kernel_rfl) (by kernel_rfl) (by kernel_rfl) (by kernel_rfl);have tO:=Tryz.typeOfS;have mA:=Tryz.methodAssignableTo;have aS:=Tryz.assignableS;have vS:=Tryz.valueOfS;have fP:=Tryz.valueOfP;have tP:=Tryz.typeP;have mK:=Tryz.methodKind;have mE:=Tryz.methodElem;have mI:=Tryz.methodImplements;have kP:=Tryz.kindP;have kS:=Tryz.kindS;have eP:=Tryz.elemP;have iS:=Tryz.implementsS;have hlt:3<w.heap.size:=dB hg;have htl:tb<w.heap.size:=(Array.getElem?_eq_some_iff.1 ht).1;have n8:=Tryz.isNilP ⟨w.heap.size,0,none⟩ ⟨tb,0,none⟩ ((w.alloc (.cells #[.pointer (some ⟨tb,0,none⟩)] 169)).alloc (.cells #[lZ 169,.pointer (some ⟨w.heap.size,0,none⟩),.int .u64 150] 185)) (by simp)
 have hg2:((w.alloc (.cells #[.pointer (some ⟨tb,0,none⟩)] 169)).alloc (.cells #[lZ 169,.pointer (some ⟨w.heap.size,0,none⟩),.int .u64 150] 185)).cell? ⟨3,0,none⟩=some (.iface 172 (.agg #[lZ 127])):=by
  rw[World.cell?_alloc_lt _ _ ⟨3,0,none⟩ (by simp;omega),World.cell?_alloc_lt _ _ ⟨3,0,none⟩ hlt];exact hg
 have el:=Tryz.elemVP ⟨w.heap.size,0,none⟩ ⟨tb,0,none⟩ (((w.alloc (.cells #[.pointer (some ⟨tb,0,none⟩)] 169)).alloc (.cells #[lZ 169,.pointer (some ⟨w.heap.size,0,none⟩),.int .u64 150] 185)).alloc (.cells #[lZ 169,.pointer (some ⟨w.heap.size,0,none⟩),.int .u64 150] 185)) (by rw[World.cell?_alloc_lt _ _ ⟨w.heap.size,0,none⟩ (by simp;omega)];simp);have hB4:Below w.heap.size w ((((w.alloc (.cells #[.pointer (some ⟨tb,0,none⟩)] 169)).alloc (.cells #[lZ 169,.pointer (some ⟨w.heap.size,0,none⟩),.int .u64 150] 185)).alloc (.cells #[lZ 169,.pointer (some ⟨w.heap.size,0,none⟩),.int .u64 150] 185)).alloc (.cells #[.int .i64 k,.iface 199 (.pointer (some a))] 152)):=((((Below.refl _ _).alloc nl _).alloc (by simp) _).alloc (by simp;omega) _).alloc (by simp;omega) _
 have st:=Tryz.setS tb (w.heap.size+1+1+1) (.int .i64 k) (.iface 199 (.pointer (some a))) o0 o1 ((((w.alloc (.cells #[.pointer (some ⟨tb,0,none⟩)] 169)).alloc (.cells #[lZ 169,.pointer (some ⟨w.heap.size,0,none⟩),.int .u64 150] 185)).alloc (.cells #[lZ 169,.pointer (some ⟨w.heap.size,0,none⟩),.int .u64 150] 185)).alloc (.cells #[.int .i64 k,.iface 199 (.pointer (some a))] 152)) rfl rfl
  (by rw[World.cell?_alloc_at _ _ _ _ (by simp)];rfl) (by rw[World.cell?_alloc_at _ _ _ _ (by simp)];rfl) (by rw[hB4.block tb htl];exact ht)
 go_enter Tryz.func130,Tryz.ntmps130;go_wp2;refine wp_loop_rounds 1 ?_;rw[rounds_succ];go_wp2;go_ret;exact⟨rfl,zR (by rw[hB4.block tb htl];exact ht) rfl,(hB4.mono (Nat.le_of_lt htl)).trans (xP _)⟩
end
section
open Go.RowKit
attribute [local go_sem ↓] Go.wp_at_zero Go.wp_at_succ
theorem BR{n:Nat}{T U:Nat->Int}{i k:Nat}:jQ n T ((i:Int)+1+(k:Int)) (U k)=M9 n T U i k:=by
 have e:((i:Int)+1+(k:Int)).toNat=i+k+1:=by omega
 unfold jQ M9 dR;rw[e,if_neg (by omega)];simp only[Nat.add_sub_cancel]
 congr 1
 apply propext;constructor
 ·rintro⟨_,h2,h3⟩;exact⟨by omega,h3⟩
 ·rintro⟨h2,h3⟩;exact⟨by omega,by omega,h3⟩
theorem oE(ao:Option Addr)(n cap:Nat)(T:Nat->Int)(X:Nat->ByteArray)(i:Nat)(bo:Option Addr)(m bcap:Nat)(U:Nat->Int)(Y:Nat->ByteArray)(aE aO:Addr)(hn:n<=200)(hc:n<=cap)(hi:i<=n)(hm:m<=1048576)(w:World)(hr:NRow w ao n T X)(hs:NRow w bo m U Y)
  (hE:w.cell? ⟨1,0,none⟩=some (vE aE)) (hO:w.cell? ⟨2,0,none⟩=some (vE aO)):
  Calls Tryz.prog 131 #[.slice ao n cap,.int .i64 i,.slice bo m bcap] w fun e w'=>(iL n T i m U=m/\e=.returned .nilIface\/iL n T i m U<m/\∃ a,e=.returned (BF ((i:Int)+1+(iL n T i m U:Int)) a))/\Below w.heap.size w w':=by
 have HA:Hid (∀ k,k<=m->(∀ j,j<k->M9 n T U i j=true)->(k<m->M9 n T U i k=false)->iL n T i m U=k):=fun k h1 h2 h3=>CT h1 h2 h3
 generalize iL n T i m U=K at HA ⊢;go_enter Tryz.func131,Tryz.ntmps131;go_wp2
 go_loopw [12] (fun q wr=>∃ k:Nat,k<=m/\q=.int .i64 k/\(∀ j,j<k->M9 n T U i j=true)/\Below w.heap.size w wr) (fun q _=>m-(intOf q).toNat)
 case atStart=>exact⟨0,Nat.zero_le _,rfl,fun j hj=>by omega,Below.refl _ _⟩
 case round=>
  obtain⟨k,hk,rfl,hat,hbel⟩:=hrel
  by_cases hlt:k<m
  rotate_left
  ·have hkn:k=m:=by omega
   subst hkn;go_wp2;go_ret;exact⟨Or.inl ⟨HA.out k nl hat (fun h=>by omega),rfl⟩,hbel⟩
  obtain⟨b,o,hao,c0,c1⟩:=(hs.below hbel nl) k hlt;subst hao;have hk1:(0:Int)<=(k:Int):=by omega
  have hk2:(k:Int)<(m:Int):=by omega
  have w1:IntKind.i64.wrap ((i:Int)+1)=(i:Int)+1:=wi
  have w2:IntKind.i64.wrap ((i:Int)+1+(k:Int))=(i:Int)+1+(k:Int):=wi
  have hF:=fun W h1 h2 h3=>lY ao n cap T X ((i:Int)+1+(k:Int)) (U k) aE aO (by omega) hc W h1 h2 h3
  rw[BR]at hF;have hbA:∀ o,Below w.heap.size w (wr.alloc o):=fun o=>hbel.alloc hbel.size o
  obtain⟨g,hg⟩:∃ g,M9 n T U i k=g:=⟨_,rfl⟩
  rw[hg]at hF;cases g
  ·simp only[Bool.false_eq_true,false_and,true_and,false_or]at hF
   go_wp2_with fail
   refine (hF _ (hr.below (hbA _) nl) (aB (hbA _) nl hE) (aB (hbA _) nl hO)).mono ?_;rintro e W1 ⟨⟨a,rfl⟩,hb1⟩;go_wp2;go_ret;have hKk:=HA.out k hk hat (fun _=>hg);exact⟨Or.inr ⟨by omega,a,by rw[hKk];rfl⟩,aF (hbA _) nl hb1⟩
  ·simp only[true_and,Bool.true_eq_false,false_and,or_false]at hF
   go_wp2_with fail
   refine (hF _ (hr.below (hbA _) nl) (aB (hbA _) nl hE) (aB (hbA _) nl hO)).mono ?_;rintro e W1 ⟨rfl,hb1⟩;go_wp2
   go_roundw
   case rel=>
    refine⟨k+1,by omega,by go_num,fun j hj=>?_,aF (hbA _) nl hb1⟩
    by_cases e:j=k
    ·subst e;exact hg
    ·exact hat j (by omega)
   case measure=>simp[intOf];omega
theorem qC(ao:Option Addr)(n cap:Nat)(T:Nat->Int)(X:Nat->ByteArray)(i:Nat)(bo:Option Addr)(m bcap:Nat)(U:Nat->Int)(Y:Nat->ByteArray)(aE aO:Addr)(hn:n<=200)(hc:n<=cap)(hi:i<=n)(hm:m<=1048576)(hbc:m<=bcap)(w:World)(hr:NRow w ao n T X)(hs:NRow w bo m U Y)
  (hE:w.cell? ⟨1,0,none⟩=some (vE aE)) (hO:w.cell? ⟨2,0,none⟩=some (vE aO)) (hT:w.cell? ⟨3,0,none⟩=some (.iface 172 (.agg #[lZ 127]))):
  Calls Tryz.prog 122 #[.slice ao n cap,.int .i64 i,.slice bo m bcap] w fun e w'=>∃ ao' cap',e=.returned (.slice ao' (mN n i m (iL n T i m U)) cap')/\mN n i m (iL n T i m U)<=cap'/\NOwn w w' ao' (mN n i m (iL n T i m U)) (mV m (iL n T i m U) i T U) (mV m (iL n T i m U) i X Y)/\Below w.heap.size w w':=by
 have hkn:=yJ (T:=T) (m:=m) (U:=U) hi;have hF:=fun W h1 h2 h3 h4=>oE ao n cap T X i bo m bcap U Y aE aO hn hc hi hm W h1 h2 h3 h4
 generalize iL n T i m U=K at hkn hF ⊢;have hb0:∀ o,Below w.heap.size w (w.alloc o):=fun o=>(Below.refl _ _).alloc nl o
 go_enter Tryz.func122,Tryz.ntmps122
 go_wp2_with fail
 refine (hF _ (hr.below (hb0 _) nl) (hs.below (hb0 _) nl) (aB (hb0 _) nl hE) (aB (hb0 _) nl hO)).mono ?_;rintro e w1 ⟨hh,hb1⟩;have hA1:=aF (hb0 _) nl hb1;have hbx:w1.heap[w.heap.size]?=some (.cells #[.int .i64 0,.nilIface] 152 (0,0)):=by rw[hb1.block _ (by simp)];exact Go.Deep.blk_alloc_new _ _
 clear hb1;rcases hh with ⟨hK,rfl⟩|⟨hK,a,rfl⟩
 ·go_wp2_with fail
  refine (DD _ _).mono ?_;rintro e w2 ⟨rfl,hq⟩;have hq':=hq.symm;subst hq';clear hq
  go_wp2_with fail
  refine (J7 ao n cap T X (by omega) _ (hr.below hA1 nl)).mono ?_;rintro e w3 ⟨ao',cap',rfl,hc3,hO3,hb3⟩;go_wp2;go_ret;rw[N1 (by omega),tL (by omega),tL (by omega)];refine⟨ao',cap',rfl,hc3,fun h=>?_,aF hA1 nl hb3⟩;obtain⟨g,e,hg,hN⟩:=hO3 h;exact⟨g,e,Nat.le_trans hA1.size hg,hN⟩
 ·obtain⟨b2,o2,hao2,_⟩:=hs 0 (by omega)
  subst hao2
  go_wp2_with fail
  refine (DE _ a w.heap.size _ _ _ (aB hA1 nl hT) hbx).mono ?_;rintro e w2 ⟨rfl,hcell,hb2⟩;have hA2:Below w.heap.size w w2:=hA1.trans hb2;clear hbx hb2;have e1:IntKind.i64.wrap ((i:Int)+1+(K:Int)-1)=((i+K:Nat):Int):=wi
  have e2:IntKind.i64.wrap (((i+K:Nat):Int)-(i:Int))=(K:Int):=wi
  have hk3:(K:Int)<=(m:Int):=by omega
  have hk4:((i+K:Nat):Int)<=(n:Int):=by omega
  have f1:(0:Int)<=(i:Int)+(K:Int):=by omega
  have f2:(i:Int)+(K:Int)<=(cap:Int):=by omega
  have f3:((i:Int)+(K:Int)).toNat=i+K:=by omega
  have f4:(i:Int)+(K:Int)-(i:Int)=(K:Int):=by omega
  have f5:K<=m:=by omega
  have f6:K<bcap:=by omega
  have f7:IntKind.i64.wrap ((i:Int)+(K:Int)-(i:Int))=(K:Int):=wi
  go_wp2_with fail
  refine wp_region_held_drew (S:=fun _=>True) (by kernel_rfl) trivial (fun _=>?_);refine tK 0 (some 21) (.slice ao n cap) rfl rfl trivial (fun w _=>by go_simp<;>first|omega|(rw[IntKind.wrap_i64];omega)) ?_;simp only[pS];refine tK 1 (some 22) (.int .i64 ((i:Int)+(K:Int))) rfl rfl trivial (fun w _=>by go_simp<;>first|omega|(rw[IntKind.wrap_i64];omega)) ?_;simp only[pS];refine tK 2 (some 23) (.slice ao (i+K) cap) rfl rfl trivial (fun w _=>by go_simp<;>first|omega|(rw[IntKind.wrap_i64];omega)) ?_;simp only[pS];refine tK 3 (some 24) (.slice (some ⟨b2,o2,none⟩) m bcap) rfl rfl trivial (fun w _=>by go_simp<;>first|omega|(rw[IntKind.wrap_i64];omega)) ?_;simp only[pS];refine tK 4 (some 25) (.int .i64 ((i:Int)+(K:Int))) rfl rfl trivial (fun w _=>by go_simp<;>first|omega|(rw[IntKind.wrap_i64];omega)) ?_;simp only[pS];refine tK 5 (some 26) (.int .i64 (i:Int)) rfl rfl trivial (fun w _=>by go_simp<;>first|omega|(rw[IntKind.wrap_i64];omega)) ?_;simp only[pS];refine tK 6 (some 27) (.int .i64 (K:Int)) rfl rfl trivial (fun w _=>by go_simp<;>first|omega|(rw[IntKind.wrap_i64];omega)) ?_;simp only[pS];refine tK 7 (some 28) (.slice (some ⟨b2,o2+K*2,none⟩) (m-K) (bcap-K)) rfl rfl trivial (fun w _=>by go_simp<;>first|omega|(rw[IntKind.wrap_i64];omega)) ?_;simp only[pS];refine cZ 8 _ rfl (by kernel_rfl) (by rfl) ?_;go_simp;have hW:Below w.heap.size w ((w2.alloc (.cells #[.slice ao (i+K) cap,.slice (some ⟨b2,o2+K*2,none⟩) (m-K) (bcap-K)] 24)).drew):=(hA2.alloc hA2.size _).drew;have c0:((w2.alloc (.cells #[.slice ao (i+K) cap,.slice (some ⟨b2,o2+K*2,none⟩) (m-K) (bcap-K)] 24)).drew).cell? ⟨w2.heap.size,0,none⟩=some (.slice ao (i+K) cap):=by simp[go_sem]
  have c1:((w2.alloc (.cells #[.slice ao (i+K) cap,.slice (some ⟨b2,o2+K*2,none⟩) (m-K) (bcap-K)] 24)).drew).cell? ⟨w2.heap.size,1,none⟩=some (.slice (some ⟨b2,o2+K*2,none⟩) (m-K) (bcap-K)):=by simp[go_sem]
  generalize ((w2.alloc (.cells #[.slice ao (i+K) cap,.slice (some ⟨b2,o2+K*2,none⟩) (m-K) (bcap-K)] 24)).drew)=W at hW c0 c1 ⊢;have hC:=B7 w2.heap.size ao (some ⟨b2,o2+K*2,none⟩) (i+K) (m-K) cap (bcap-K) T (fun j=>U (K+j)) X (fun j=>Y (K+j)) (by omega) (by omega) (by omega) W c0 c1 ((hr.less hkn).below hW nl) ((hs.below hW nl).drop (by omega));refine cZ 9 _ rfl (by kernel_rfl) (by rfl) ?_;go_simp;refine hC.mono ?_;rintro e w3 ⟨ao3,cap3,rfl,⟨g,rfl,hown⟩,hb3⟩;have hA3:=aF hW nl hb3;refine tK 10 (some 6) (.slice (some ⟨g,0,none⟩) (i+K+(m-K)) cap3) rfl rfl trivial (fun w _=>by go_simp) ?_;simp only[pS];refine wpAnyH_done (by kernel_rfl) ?_ _;go_wp2;go_ret;rw[nA hK,iD hK,iD hK];have hs9:i+K+(m-K)=i+m:=by omega
  rw[hs9]at hown
  have hN:=dQ (T:=nY K i T U) (X:=nY K i X Y) hown (by
   rw[<-hs9];refine lR _ _ (fun j hj=>⟨if_pos hj,if_pos hj⟩) (fun j hj=>?_);have hx:¬ i+K+j<i+K:=by omega
   have hy:i+K+j-i=K+j:=by omega
   unfold nY;rw[if_neg hx,if_neg hx,hy]
   exact⟨rfl,rfl⟩)
  refine⟨some ⟨g,0,none⟩,cap3,by rw[<-hs9];rfl,mW hown,fun _=>⟨g,rfl,Nat.le_trans hW.size hN.2,hN.1⟩,hA3⟩
def mD(n:Nat)(T:Nat->Int)(X:Nat->ByteArray)(i:Int)(m:Nat)(U:Nat->Int)(Y:Nat->ByteArray):Bool:=
 eD n T X&&(decide (0<=i)&&(decide (i<=n)&&eD (mN n i.toNat m (iL n T i.toNat m U)) (mV m (iL n T i.toNat m U) i.toNat T U) (mV m (iL n T i.toNat m U) i.toNat X Y)))
def lB(n:Nat)(T:Nat->Int)(X:Nat->ByteArray)(i:Int)(m:Nat)(U:Nat->Int)(Y:Nat->ByteArray):Nat:=if mD n T X i m U Y=true then mN n i.toNat m (iL n T i.toNat m U) else 0
def MAnsN(w w':World)(e:Ending)(n:Nat)(T:Nat->Int)(X:Nat->ByteArray)(i:Int)(m:Nat)(U:Nat->Int)(Y:Nat->ByteArray):Prop:=
 ∃ ao cap,e=.returned (.tuple #[.slice ao (lB n T X i m U Y) cap,.bool (mD n T X i m U Y)])/\lB n T X i m U Y<=cap/\NOwn w w' ao (lB n T X i m U Y) (mV m (iL n T i.toNat m U) i.toNat T U) (mV m (iL n T i.toNat m U) i.toNat X Y)/\Below w.heap.size w w'
theorem MAnsN.no{w w':World}{n:Nat}{T:Nat->Int}{X:Nat->ByteArray}{i:Int}{m:Nat}{U:Nat->Int}{Y:Nat->ByteArray}{ao:Option Addr}{cap:Nat}(h:mD n T X i m U Y=false)(hb:Below w.heap.size w w'):MAnsN w w' (.returned (.tuple #[.slice ao 0 cap,.bool false])) n T X i m U Y:=by
 have hl:lB n T X i m U Y=0:=if_neg (by rw[h];simp);refine⟨ao,cap,by rw[hl,h],by omega,?_,hb⟩;rw[hl];exact fun h=>by omega
theorem MAnsN.yes{w w':World}{n:Nat}{T:Nat->Int}{X:Nat->ByteArray}{i:Int}{m:Nat}{U:Nat->Int}{Y:Nat->ByteArray}{ao:Option Addr}{cap:Nat}(h:mD n T X i m U Y=true)(hc:mN n i.toNat m (iL n T i.toNat m U)<=cap)(hO:NOwn w w' ao (mN n i.toNat m (iL n T i.toNat m U)) (mV m (iL n T i.toNat m U) i.toNat T U) (mV m (iL n T i.toNat m U) i.toNat X Y))(hb:Below w.heap.size w w'):MAnsN w w' (.returned (.tuple #[.slice ao (mN n i.toNat m (iL n T i.toNat m U)) cap,.bool true])) n T X i m U Y:=by
 have hl:lB n T X i m U Y=mN n i.toNat m (iL n T i.toNat m U):=if_pos h;refine⟨ao,cap,by rw[hl,h],by omega,?_,hb⟩;rw[hl];exact hO
theorem X5{m k i n:Nat}{X Y:Nat->ByteArray}(hi:i<=n)(hk:i+k<=n)(hX:∀ j,j<n->(X j).size<=1048576)(hY:∀ j,j<m->(Y j).size<=1048576):∀ j,j<mN n i m k->(mV m k i X Y j).size<=1048576:=fun j hj=>by
 by_cases h:k<m
 ·rw[nA h]at hj
  rw[iD h];unfold nY
  split
  ·exact hX j (by omega)
  ·exact hY _ (by omega)
 ·rw[N1 h]at hj
  rw[tL h];exact hX j hj
theorem uF(ao:Option Addr)(n cap:Nat)(T:Nat->Int)(X:Nat->ByteArray)(i:Int)(bo:Option Addr)(m bcap:Nat)(U:Nat->Int)(Y:Nat->ByteArray)(aE aL aO:Addr)(hn:n<=1048576)(hc:n<=cap)(hm:m<=1048576)(hbc:m<=bcap)(hX:∀ k,k<n->(X k).size<=1048576)(hY:∀ k,k<m->(Y k).size<=1048576)(w:World)(hr:NRow w ao n T X)(hs:NRow w bo m U Y)
  (hE:w.cell? ⟨1,0,none⟩=some (vE aE)) (hL:w.cell? ⟨0,0,none⟩=some (vE aL)) (hO:w.cell? ⟨2,0,none⟩=some (vE aO)) (hT:w.cell? ⟨3,0,none⟩=some (.iface 172 (.agg #[lZ 127]))):
  Calls Tryz.prog 106 #[.slice ao n cap,.int .i64 i,.slice bo m bcap] w fun e w'=>MAnsN w w' e n T X i m U Y:=by
 have HL:=fun W h h2=>iF ao n cap T X aL (by omega) hX W h h2
 obtain⟨l,hl⟩:∃ l,eD n T X=l:=⟨_,rfl⟩
 rw[hl]at HL;cases l
 ·have hno:mD n T X i m U Y=false:=by unfold mD;rw[hl];rfl
  go_enter Tryz.func106,Tryz.ntmps106
  go_wp2_with fail
  refine (HL _ hr hL).mono ?_;rintro e w1 ⟨rfl,hb1⟩;go_wp2;exact bodyPost_ret (v:=.tuple #[.slice none 0 0,.bool false]) (by simp[results,Tryz.results106,go_sem]) rfl (MAnsN.no hno hb1)
 by_cases hi:i<0\/(n:Int)<i
 ·have hno:mD n T X i m U Y=false:=by
   unfold mD;rcases hi with h|h
   ·rw[decide_eq_false (show ¬ 0<=i by omega)];simp
   ·rw[decide_eq_false (show ¬ i<=(n:Int) by omega)];simp
  have HT:=fun W h=>sV ao n cap i aE (by omega) hi W h
  go_enter Tryz.func106,Tryz.ntmps106
  go_wp2_with fail
  refine (HL _ hr hL).mono ?_;rintro e w1 ⟨rfl,hb1⟩;have hE1:=aB hb1 nl hE
  go_wp2_with fail
  refine (HT _ hE1).mono ?_;rintro e w2 ⟨rfl,hb2⟩;have hA2:=aF hb1 nl hb2;have hE2:=aB hA2 nl hE
  go_wp2_with fail
  refine (V0 i aE _).mono ?_;rintro e w3 ⟨rfl,hb3⟩;go_wp2;exact bodyPost_ret (v:=.tuple #[.slice none 0 0,.bool false]) (by simp[results,Tryz.results106,go_sem]) rfl (MAnsN.no hno (aF hA2 nl hb3))
 obtain⟨j,rfl⟩:∃ j:Nat,i=j:=⟨i.toNat,by omega⟩
 have hj:j<=n:=by omega
 have hn2:=(xB hl).1;have HT:=fun W h=>wH ao n cap T X (j:Int) (by omega) hc (by omega) (by omega) W h
 have HM:=fun W h1 h2 h3 h4 h5=>qC ao n cap T X j bo m bcap U Y aE aO hn2 hc hj hm hbc W h1 h2 h3 h4 h5
 have hkn:=yJ (T:=T) (m:=m) (U:=U) hj
 have hok:mD n T X (j:Int) m U Y=eD (mN n j m (iL n T j m U)) (mV m (iL n T j m U) j T U) (mV m (iL n T j m U) j X Y):=by
  unfold mD;rw[hl,decide_eq_true (show (0:Int)<=(j:Int) by omega),decide_eq_true (show (j:Int)<=(n:Int) by omega)];simp
 have HLM:=fun ao' cap' W h h2=>iF ao' (mN n j m (iL n T j m U)) cap' (mV m (iL n T j m U) j T U) (mV m (iL n T j m U) j X Y) aL (by unfold mN;split<;>omega) (X5 hj hkn hX hY) W h h2
 rw[<-hok]at HLM;have HY:Hid (∀ {w':World} {ao:Option Addr} {cap:Nat},mD n T X (j:Int) m U Y=true->mN n j m (iL n T j m U)<=cap->NOwn w w' ao (mN n j m (iL n T j m U)) (mV m (iL n T j m U) j T U) (mV m (iL n T j m U) j X Y)->Below w.heap.size w w'->MAnsN w w' (.returned (.tuple #[.slice ao (mN n j m (iL n T j m U)) cap,.bool true])) n T X (j:Int) m U Y):=fun h hc hO hb=>MAnsN.yes h hc hO hb
 have HN:Hid (∀ {w':World} {ao:Option Addr} {cap:Nat},mD n T X (j:Int) m U Y=false->Below w.heap.size w w'->MAnsN w w' (.returned (.tuple #[.slice ao 0 cap,.bool false])) n T X (j:Int) m U Y):=fun h hb=>MAnsN.no h hb
 clear hok;generalize mD n T X (j:Int) m U Y=q at HLM HY HN;generalize mN n j m (iL n T j m U)=N' at HLM HY HN HM;generalize mV m (iL n T j m U) j T U=T' at HLM HY HN HM;generalize mV m (iL n T j m U) j X Y=X' at HLM HY HN HM;generalize dR ((j:Int)).toNat T=z at HT;go_enter Tryz.func106,Tryz.ntmps106
 go_wp2_with fail
 refine (HL _ hr hL).mono ?_;rintro e w1 ⟨rfl,hb1⟩;have hr1:=hr.below hb1 nl
 go_wp2_with fail
 refine (HT _ hr1).mono ?_;rintro e w2 ⟨rfl,hq⟩;have hq':=hq.symm;subst hq';clear hq;have hE2:=aB hb1 nl hE
 go_wp2_with fail
 refine (U9 aE _).mono ?_;rintro e w3 ⟨rfl,hq⟩;have hq':=hq.symm;subst hq';clear hq
 go_wp2_with fail
 refine (HM _ hr1 (hs.below hb1 nl) hE2 (aB hb1 nl hO) (aB hb1 nl hT)).mono ?_;rintro e w4 ⟨ao4,cap4,rfl,hc4,hO4,hb4⟩;have hA4:=aF hb1 nl hb4
 go_wp2_with fail
 refine (HLM ao4 cap4 _ hO4.row (aB hA4 nl hL)).mono ?_;rintro e w5 ⟨rfl,hb5⟩;have hA5:=aF hA4 nl hb5;cases q
 ·go_wp2
  exact bodyPost_ret (v:=.tuple #[.slice none 0 0,.bool false]) (by simp[results,Tryz.results106,go_sem]) rfl (HN.out trivial hA5)
 ·go_wp2
  refine bodyPost_ret (v:=.tuple #[.slice ao4 N' cap4,.bool true]) (by simp[results,Tryz.results106,go_sem]) rfl (HY.out trivial hc4 (fun h=>?_) hA5);obtain⟨g,e,hg,hN⟩:=hO4 h;exact⟨g,e,Nat.le_trans hb1.size hg,hN.below hb5 hN.lt⟩
theorem yE(ao:Option Addr)(n cap:Nat)(T:Nat->Int)(X:Nat->ByteArray)(i t:Int)(aL aO aE:Addr)(hn:n<=9223372036854775807)(hX:∀ k,k<n->(X k).size<=1048576)(hc:n<=cap)(w:World)(hr:NRow w ao n T X)
  (hL:w.cell? ⟨0,0,none⟩=some (vE aL)) (hO:w.cell? ⟨2,0,none⟩=some (vE aO)) (hE:w.cell? ⟨1,0,none⟩=some (vE aE)):
  Calls Tryz.prog 105 #[.slice ao n cap,.int .i64 i,.int .i64 t] w fun e w'=>e=.returned (.bool (eD n T X&&jQ n T i t))/\Below w.heap.size w w':=by
 have HL:=fun W h h2=>iF ao n cap T X aL hn hX W h h2
 have HF:=fun W h h1 h2=>lY ao n cap T X i t aE aO hn hc W h h1 h2
 generalize jQ n T i t=f at HF ⊢;generalize eD n T X=l at HL ⊢;go_enter Tryz.func105,Tryz.ntmps105
 go_wp2_with fail
 refine (HL _ hr hL).mono ?_;rintro e w1 ⟨rfl,hb1⟩;have hr1:=hr.below hb1 nl;have hE1:=aB hb1 nl hE;have hO1:=aB hb1 nl hO;cases l
 ·go_wp2
  go_ret;exact⟨rfl,hb1⟩
 ·go_wp2_with fail
  refine (HF _ hr1 hE1 hO1).mono ?_;rintro e w2 ⟨hh,hb2⟩;have hA2:=aF hb1 nl hb2;rcases hh with ⟨rfl,rfl⟩|⟨rfl,a,rfl⟩
  ·go_wp2
   go_ret;exact⟨rfl,hA2⟩
  ·go_wp2
   go_ret;exact⟨rfl,hA2⟩
end
section
open Go
def CY(e:Ending)(P:Prop):Prop:=∃ v:Bool,e=.returned (.bool v)/\(v=true↔P)
theorem wV{P:Prop}(h:¬ P):CY (.returned (.bool false)) P:=⟨false,rfl,by simp[h]⟩
theorem T2{P:Prop}(h:P):CY (.returned (.bool true)) P:=⟨true,rfl,by simp[h]⟩
end
section
open Go.RowKit
attribute [local go_sem ↓] Go.wp_at_zero Go.wp_at_succ
def M1(n m:Nat)(L:Nat->Int)(H:Nat->ByteArray)(L':Nat->Int)(H':Nat->ByteArray):Prop:=n=m/\∀ i,i<n->L i=L' i/\H i=H' i
theorem H6(ao ao':Option Addr)(n m cap cap':Nat)(L L':Nat->Int)(H H':Nat->ByteArray)(hn:n<=1048576)(hm:m<=1048576)(w:World)(hr:NRow w ao n L H)(hr':NRow w ao' m L' H'):
  Calls Tryz.prog 107 #[.slice ao n cap,.slice ao' m cap'] w fun e w'=>CY e (M1 n m L H L' H')/\Below w.heap.size w w':=by
 by_cases hnm:n=m
 rotate_left
 ·have HN:Hid (¬ M1 n m L H L' H'):=fun h=>hnm h.1
  have hnm':¬ (n:Int)=(m:Int):=by omega
  go_enter Tryz.func107,Tryz.ntmps107;go_wp2;go_ret;exact⟨wV HN.out,Below.refl _ _⟩
 subst hnm;go_enter Tryz.func107,Tryz.ntmps107;go_wp2
 go_loopw [13] (fun x wr=>∃ k:Nat,k<=n/\x=.int .i64 k/\(∀ i,i<k->L i=L' i/\H i=H' i)/\Below w.heap.size w wr) (fun x _=>n-(intOf x).toNat)
 case atStart=>exact⟨0,Nat.zero_le _,rfl,fun i hi=>by omega,Below.refl _ _⟩
 case round=>
  obtain⟨k,hk,rfl,hall,hbel⟩:=hrel;have HA:Hid (∀ i,i<k->L i=L' i/\H i=H' i):=hall;clear hall
  by_cases hlt:k<n
  rotate_left
  ·have hkn:k=n:=by omega
   subst hkn;go_wp2;go_ret;exact⟨T2 ⟨rfl,HA.out⟩,hbel⟩
  obtain⟨b,o,hao,c0,c1⟩:=(hr.below hbel nl) k hlt;subst hao;obtain⟨b',o',hao',d0,d1⟩:=(hr'.below hbel nl) k hlt;subst hao';have hk1:(0:Int)<=(k:Int):=by omega
  have hk2:(k:Int)<(n:Int):=by omega
  by_cases he:L k=L' k/\H k=H' k
  ·have HE:Hid (L k=L' k/\H k=H' k):=he
   obtain⟨e1,e2⟩:=he;rw[<-e1]at d0;rw[<-e2]at d1;clear e1 e2;go_wp2
   go_quiet (fail)
   go_wp2
   go_roundw
   case rel=>exact⟨k+1,by omega,by go_num,fun i hi=>by
    by_cases x:i=k
    ·subst x;exact HE.out
    ·exact HA.out i (by omega),below_drewN hbel _⟩
   case measure=>simp[intOf];omega
  ·have HE:Hid (¬ M1 n n L H L' H'):=fun h=>he (h.2 k hlt)
   by_cases h1:L k=L' k
   ·have h2:¬ H k=H' k:=fun h=>he ⟨h1,h⟩
    have hs0:¬ (H k).data.toList=(H' k).data.toList:=fun q=>h2 (by
     have:=Array.ext' q;rcases hq:H k with ⟨d⟩
     rcases hr:H' k with ⟨d'⟩
     rw[hq,hr]at this;simp at this
     rw[this])
    have hs1:((H k).toList==(H' k).toList)=false:=by rw[ByteArray.toList_eq,ByteArray.toList_eq];simpa using hs0
    clear hs0;rw[<-h1]at d0;clear h1 he;go_wp2
    go_quiet (fail)
    go_wp2;go_ret;exact⟨wV HE.out,below_drewN hbel _⟩
   ·clear he
    go_wp2
    go_quiet (fail)
    go_wp2;go_ret;exact⟨wV HE.out,below_drewN hbel _⟩
def H7:List En->List En->Bool
 | [],[]=>true
 | x :: a,y :: b=>(decide (x.t=y.t)&&decide (x.x=y.x))&&H7 a b
 | _,_=>false
theorem yD:∀ a b:List En,H7 a b=true↔a=b
 | [],[]=>by simp[H7]
 | x :: a,y :: b=>by
  obtain⟨xt,xx⟩:=x;obtain⟨yt,yx⟩:=y;simp[H7,yD a b]
 | [],y :: b=>by simp[H7]
 | x :: a,[]=>by simp[H7]
theorem Q6:∀ a b:List En,M1 a.length b.length (cL a) (cS a) (cL b) (cS b)↔a=b:=by
 intro a b;constructor
 ·rintro⟨hl,h⟩
  apply List.ext_getElem hl;intro i h1 h2;have:=h i h1;simp[cL,cS,h1,h2]at this;rcases hq:a[i] with ⟨t1,x1⟩
  rcases hr:b[i] with ⟨t2,x2⟩
  rw[hq,hr]at this;simp at this;rw[this.1,this.2]
 ·rintro rfl
  exact⟨rfl,fun i _=>⟨rfl,rfl⟩⟩
theorem H8(ao ao':Option Addr)(a b:List En)(cap cap':Nat)(hn:a.length<=1048576)(hm:b.length<=1048576)(w:World){t:TypeId}(hr:LRow w t ao (dZ a))(hr':LRow w t ao' (dZ b)):Calls Tryz.prog 107 #[.slice ao a.length cap,.slice ao' b.length cap'] w fun e w'=>e=.returned (.bool (H7 a b))/\RB w w':=
 (H6 ao ao' a.length b.length cap cap' (cL a) (cL b) (cS a) (cS b) hn hm w hr.n hr'.n).mono fun e w' ⟨⟨v,e1,h⟩,hb⟩=>⟨by
  rw[e1]
  congr 2
  rw[Bool.eq_iff_iff,h,Q6,yD],hb⟩
end
end Go.Proofs.YtbabakgjkloabaaGreatDoor
