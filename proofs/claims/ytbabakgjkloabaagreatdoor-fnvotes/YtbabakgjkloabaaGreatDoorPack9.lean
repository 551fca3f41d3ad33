/-
  Helpers: Nd3, Nd1, Nd4, Ms1, Ms2, AppR, NetP, Net1, NdW, CluP, NdC.
-/
import Derived.Test.YtbabakgjkloabaaGreatDoorPack8
set_option linter.unusedVariables false
set_option linter.unusedSimpArgs false
set_option maxRecDepth 100000
set_option maxHeartbeats 16000000
namespace Go.Proofs.YtbabakgjkloabaaGreatDoor
section
open Go Go.RowKit
attribute [local go_sem ↓] Go.wp_at_zero Go.wp_at_succ
theorem sT(n:Nd)(s:NdS)(hz:NdZ n s)(w:World)(hM:NdM w n s):Calls Tryz.prog 30 #[aX n s] w fun e w'=>∃ s',e=.returned (aX n s')/\NdO w' w.heap.size n s'/\RB w w':=by
 have hb:=rt _ _ _ (ra w (.cells (aJ n s).toArray 27)) (ra _ (.cells (aJ aU aP).toArray 27));have vA:NdB _ w.heap.size n s:=(aH w n s).next (ra _ (.cells (aJ aU aP).toArray 27));have vR:=aH (w.alloc (.cells (aJ n s).toArray 27)) aU aP;rw[World.size_alloc]at vR;replace hM:=hM.next hb;obtain⟨hzl,hzv,hzx,hzm,_,_,_,_,_⟩:=hz;go_enter Tryz.func30,Tryz.ntmps30
 go_wp2_with fail
 generalize ((w.alloc _).alloc _)=W at hb vA vR hM ⊢;refine (rZ s.lo s.lc n.log hzl _ hM.l).mono ?_;rintro e u0 ⟨a0,c0,rfl,o0,hb0⟩;replace o0:=o0.from hb.size
 replace hb:=rt _ _ _ hb hb0;replace vA:NdB u0 w.heap.size n s:=vn vA hb0;replace vR:NdB u0 (w.heap.size+1) aU aP:=vn vR hb0;replace hM:=hM.next hb0
 go_wp2_with (with_reducible refine wC 24 (.tmp 6) (.tmp 5) w.heap.size 4 (.slice a0 n.log.length c0) vA ?_;intro W0 hW0;have hg:=aC u0 w.heap.size 4 (.slice a0 n.log.length c0);have hT:=bA vA;replace vA:NdB _ w.heap.size n ⟨a0,c0,s.vo,s.vc,s.no,s.nc,s.mo,s.mc⟩:=NdB.put vA 4 (by omega) (.slice a0 n.log.length c0) rfl;replace vR:NdB _ (w.heap.size+1) aU aP:=VHas.grown vR hg (fun e=>by have:=oI e;omega);replace hb:=aV hb hg nl;replace hM:=hM.gr hg hT (by decide) (by decide);replace o0:=o0.gr hg hT (by decide);rw[<-hW0]at vA vR hb hM o0;clear hW0 hg hT;have cc:=VHas.cell vA (j:=7) (by omega);simp[lf]at cc)
 clear cc;refine (oA s.vo s.vc n.votes hzv _ hM.v).mono ?_;rintro e u1 ⟨a1,c1,rfl,o1,hb1⟩;replace o1:=o1.from hb.size
 replace hb:=rt _ _ _ hb hb1;replace vA:NdB u1 w.heap.size n ⟨a0,c0,s.vo,s.vc,s.no,s.nc,s.mo,s.mc⟩:=vn vA hb1;replace vR:NdB u1 (w.heap.size+1) aU aP:=vn vR hb1;replace hM:=hM.next hb1;replace o0:=o0.next hb1
 go_wp2_with (with_reducible refine wC 25 (.tmp 10) (.tmp 9) w.heap.size 7 (.slice a1 n.votes.length c1) vA ?_;intro W1 hW1;have hg:=aC u1 w.heap.size 7 (.slice a1 n.votes.length c1);have hT:=bA vA;replace vA:NdB _ w.heap.size n ⟨a0,c0,a1,c1,s.no,s.nc,s.mo,s.mc⟩:=NdB.put vA 7 (by omega) (.slice a1 n.votes.length c1) rfl;replace vR:NdB _ (w.heap.size+1) aU aP:=VHas.grown vR hg (fun e=>by have:=oI e;omega);replace hb:=aV hb hg nl;replace hM:=hM.gr hg hT (by decide) (by decide);replace o0:=o0.gr hg hT (by decide);replace o1:=o1.gr hg hT (by decide);rw[<-hW1]at vA vR hb hM o0 o1;clear hW1 hg hT;have cc:=VHas.cell vA (j:=8) (by omega);simp[lf]at cc)
 clear cc;refine (oA s.no s.nc n.next hzx _ hM.x).mono ?_;rintro e u2 ⟨a2,c2,rfl,o2,hb2⟩;have d12:=D6 o1 o2;replace o2:=o2.from hb.size
 replace hb:=rt _ _ _ hb hb2;replace vA:NdB u2 w.heap.size n ⟨a0,c0,a1,c1,s.no,s.nc,s.mo,s.mc⟩:=vn vA hb2;replace vR:NdB u2 (w.heap.size+1) aU aP:=vn vR hb2;replace hM:=hM.next hb2;replace o0:=o0.next hb2;replace o1:=o1.next hb2
 go_wp2_with (with_reducible refine wC 25 (.tmp 14) (.tmp 13) w.heap.size 8 (.slice a2 n.next.length c2) vA ?_;intro W2 hW2;have hg:=aC u2 w.heap.size 8 (.slice a2 n.next.length c2);have hT:=bA vA;replace vA:NdB _ w.heap.size n ⟨a0,c0,a1,c1,a2,c2,s.mo,s.mc⟩:=NdB.put vA 8 (by omega) (.slice a2 n.next.length c2) rfl;replace vR:NdB _ (w.heap.size+1) aU aP:=VHas.grown vR hg (fun e=>by have:=oI e;omega);replace hb:=aV hb hg nl;replace hM:=hM.gr hg hT (by decide) (by decide);replace o0:=o0.gr hg hT (by decide);replace o1:=o1.gr hg hT (by decide);replace o2:=o2.gr hg hT (by decide);rw[<-hW2]at vA vR hb hM o0 o1 o2;clear hW2 hg hT;have cc:=VHas.cell vA (j:=9) (by omega);simp[lf]at cc)
 clear cc;refine (oA s.mo s.mc n.mat hzm _ hM.m).mono ?_;rintro e u3 ⟨a3,c3,rfl,o3,hb3⟩;have d13:=D6 o1 o3;have d23:=D6 o2 o3;replace o3:=o3.from hb.size
 replace hb:=rt _ _ _ hb hb3;replace vA:NdB u3 w.heap.size n ⟨a0,c0,a1,c1,a2,c2,s.mo,s.mc⟩:=vn vA hb3;replace vR:NdB u3 (w.heap.size+1) aU aP:=vn vR hb3;replace hM:=hM.next hb3;replace o0:=o0.next hb3;replace o1:=o1.next hb3;replace o2:=o2.next hb3
 go_wp2_with (first|(with_reducible refine wC 25 (.tmp 18) (.tmp 17) w.heap.size 9 (.slice a3 n.mat.length c3) vA ?_;intro W3 hW3;have hg:=aC u3 w.heap.size 9 (.slice a3 n.mat.length c3);have hT:=bA vA;replace vA:NdB _ w.heap.size n ⟨a0,c0,a1,c1,a2,c2,a3,c3⟩:=NdB.put vA 9 (by omega) (.slice a3 n.mat.length c3) rfl;replace vR:NdB _ (w.heap.size+1) aU aP:=VHas.grown vR hg (fun e=>by have:=oI e;omega);replace hb:=aV hb hg nl;replace hM:=hM.gr hg hT (by decide) (by decide);replace o0:=o0.gr hg hT (by decide);replace o1:=o1.gr hg hT (by decide);replace o2:=o2.gr hg hT (by decide);replace o3:=o3.gr hg hT (by decide);rw[<-hW3]at vA vR hb hM o0 o1 o2 o3;clear hW3 hg hT;obtain⟨d0,d1,d2,d3,d4,d5,d6,d7,d8,d9⟩:=cN vA)|(with_reducible refine wB 27 (.tmp 2) (.tmp 19) (w.heap.size+1) (aJ n ⟨a0,c0,a1,c1,a2,c2,a3,c3⟩) vR ?_;intro W9 hv9 hg9))
 obtain⟨q0,q1,q2,q3,q4,q5,q6,q7,q8,q9⟩:=cN hv9;have hT:=bA vR;have hO:NdO W9 w.heap.size n ⟨a0,c0,a1,c1,a2,c2,a3,c3⟩:=⟨o0.gr hg9 hT (by decide),o1.gr hg9 hT (by decide),o2.gr hg9 hT (by decide),o3.gr hg9 hT (by decide),d12,d13,d23⟩
 exact bodyPost_ret (v:=aX n ⟨a0,c0,a1,c1,a2,c2,a3,c3⟩) (by simp[results,Tryz.results30,go_sem,q0,q1,q2,q3,q4,q5,q6,q7,q8,q9]) rfl ⟨⟨a0,c0,a1,c1,a2,c2,a3,c3⟩,rfl,hO,aV hb hg9 (by omega)⟩
theorem iV(n:Nd)(s:NdS)(x:Int)(w:World):Calls Tryz.prog 44 #[aX n s,.int .i64 x] w fun e w'=>e=.returned (.bool (dS n.peers x))/\RB w w':=by
 have hb:=ra w (.cells (aJ n s).toArray 27);have c1:=(aH w n s).cell (j:=1) (by omega);simp[lf]at c1
 by_cases h:0<=x
 ·go_enter Tryz.func44,Tryz.ntmps44
  go_wp2;go_ret;exact⟨by simp[dS,h],hb⟩
 ·go_enter Tryz.func44,Tryz.ntmps44
  go_wp2;go_ret;have e2:dS n.peers x=false:=by simp[dS];omega
  exact⟨by rw[e2];rfl,hb⟩
theorem gD(n:Nd)(s:NdS)(hn:n.log.length<=1048576)(w:World):Calls Tryz.prog 46 #[aX n s] w fun e w'=>e=.returned (.int .i64 (n.log.length:Int))/\RB w w':=by
 have hb:=ra w (.cells (aJ n s).toArray 27);have c4:=(aH w n s).cell (j:=4) (by omega);simp[lf]at c4;go_enter Tryz.func46,Tryz.ntmps46;go_wp2;go_ret;exact⟨rfl,hb⟩
theorem nT(ao:Option Addr)(cap:Nat)(l:List En)(x:Int)(aL aE aO:Addr)(hn:l.length<=1048576)(hX:∀ k,k<l.length->(cS l k).size<=1048576)(w:World)(hG:GlV w aL aE aO){t:TypeId}(hr:LRow w t ao (dZ l)):Calls Tryz.prog 45 #[.slice ao l.length cap,.int .i64 x] w fun e w'=>e=.returned (.bool (fJ l&&decide (bM l<=x)))/\RB w w':=by
 go_enter Tryz.func45,Tryz.ntmps45
 go_wp2_with fail
 refine (iF ao l.length cap (cL l) (cS l) aL (by omega) hX _ hr.n hG.l).mono ?_;rintro e w1 ⟨rfl,hb⟩;have e1:fJ l=eD l.length (cL l) (cS l):=rfl;rw[<-e1];rcases bq (fJ l) with h|h
 ·rw[h]
  go_wp2_with fail
  refine (fH ao l.length cap (cL l) (cS l) (by omega) _ (hr.next hb).n).mono ?_;rintro e w2 ⟨rfl,hq⟩;have hq':=hq.symm;subst hq';go_wp2;go_ret;exact⟨by rw[h];simp[bM];exact decide_eq_decide.2 Iff.rfl,hb⟩
 ·rw[h]
  go_wp2;go_ret;exact⟨by rw[h];rfl,hb⟩
theorem D0(p least:Int){l:List Int}{k:Nat}(h:l.length<=k):bB p least (l.drop k)=true:=by
 rw[List.drop_eq_nil_of_le h];rfl
theorem N5(p least:Int){l:List Int}{k:Nat}(h:k<l.length):bB p least (l.drop k)=(decide (least<=aT l k)&&(dS p (aT l k)&&bB p (aT l k+1) (l.drop (k+1)))):=by
 rw[List.drop_eq_getElem_cons h];have e:aT l k=l[k]:=by simp[aT,h]
 rw[e];rfl
theorem yY(n:Nd)(s:NdS)(hz:NdZ n s)(hp:n.peers<=5)(w:World)(hM:NdM w n s):Calls Tryz.prog 87 #[aX n s] w fun e w'=>e=.returned (.bool (bB n.peers 0 n.votes))/\RB w w':=by
 have hzv:=hz.v;clear hz;obtain⟨lo,lc,vo,vc,no,nc,mo,mc⟩:=s;have hb:=ra w (.cells (aJ n ⟨lo,lc,vo,vc,no,nc,mo,mc⟩).toArray 27);have vA:=aH w n ⟨lo,lc,vo,vc,no,nc,mo,mc⟩;have hv:=hM.v.next hb;simp only at hv;clear hM
 by_cases hl:n.votes.length=0
 ·have hne:n.votes=[]:=List.eq_nil_of_length_eq_zero hl
  go_enter Tryz.func87,Tryz.ntmps87;go_wp2
  go_loopw [3,5,9] (fun x3 x5 x9 wr=>x9=.int .i64 0/\RB w wr) (fun _ _ _ _=>0)
  case atStart=>exact⟨rfl,ra _ _⟩
  case round=>
   obtain⟨rfl,hR⟩:=hrel;go_wp2;go_ret;exact⟨by rw[hne];rfl,hR⟩
 obtain⟨b,o,rfl,hty,hcl⟩:=hv (fun h=>by have:=cO n.votes;rw[h]at this;simp at this;omega);have HV:Hid (∀ k,k<n.votes.length->(w.alloc (.cells (aJ n ⟨lo,lc,some ⟨b,o,none⟩,vc,no,nc,mo,mc⟩).toArray 27)).cell? ⟨b,o+k,none⟩=some (.int .i64 (aT n.votes k))):=fun k hk=>hcl _ _ (fZ hk)
 clear hl hcl hty hv;go_enter Tryz.func87,Tryz.ntmps87;go_wp2;generalize (w.alloc (.cells (aJ n ⟨lo,lc,some ⟨b,o,none⟩,vc,no,nc,mo,mc⟩).toArray 27))=W at hb vA HV ⊢
 go_loopw [3,5,9] (fun x3 x5 x9 wr=>∃ (k:Nat) (least:Int),k<=n.votes.length/\x9=.int .i64 k/\x3=.int .i64 least/\bB n.peers 0 n.votes=bB n.peers least (n.votes.drop k)/\RB W wr) (fun _ _ x _=>n.votes.length-(intOf x).toNat)
 case atStart=>exact⟨0,0,Nat.zero_le _,rfl,rfl,rfl,rr _⟩
 case round=>
  obtain⟨k,least,hk,rfl,rfl,hq,hR⟩:=hrel
  by_cases hlt:k<n.votes.length
  rotate_left
  ·obtain rfl:k=n.votes.length:=by omega
   rw[D0 _ _ nl]at hq;go_wp2;go_ret;exact⟨by rw[hq];rfl,rt _ _ _ hb hR⟩
  rw[N5 _ _ hlt]at hq;have cv:=aB hR nl (HV.out k hlt);generalize aT n.votes k=x at hq cv;have hlt':(k:Int)<(n.votes.length:Int):=by omega
  have vW:=vA.next hR;obtain⟨c0,c1,c2,c3,c4,c5,c6,c7,c8,c9⟩:=vW.c10;simp[lf]at c0 c1 c2 c3 c4 c5 c6 c7 c8 c9
  by_cases h1:x<least
  ·have e1:(decide (least<=x))=false:=by simp;omega
   rw[e1,Bool.false_and]at hq;go_wp2;go_ret;exact⟨by rw[hq];rfl,rt _ _ _ hb hR⟩
  have e1:(decide (least<=x))=true:=by simp;omega
  rw[e1,Bool.true_and]at hq
  go_wp2_with fail
  refine (iV n ⟨lo,lc,some ⟨b,o,none⟩,vc,no,nc,mo,mc⟩ x _).mono ?_;rintro e w1 ⟨rfl,hb1⟩;rcases bq (dS n.peers x) with h2|h2
  rotate_left
  ·rw[h2,Bool.false_and]at hq
   rw[h2];go_wp2;go_ret;exact⟨by rw[hq];rfl,rt _ _ _ hb (rt _ _ _ hR hb1)⟩
  have hx:0<=x/\x<n.peers:=by simpa[dS] using h2
  rw[h2,Bool.true_and]at hq;rw[h2];have hw1:IntKind.i64.wrap (x+1)=x+1:=wi
  go_wp2
  go_roundw
  case rel=>exact⟨k+1,x+1,by omega,by go_num,rfl,hq,rt _ _ _ hR hb1⟩
  case measure=>simp[intOf];omega
theorem N7{e:Int}{nx mt:List Int}{m:Nat}(h:∀ j,j<m->cA e nx mt j=true):(List.range m).all (cA e nx mt)=true:=by
 rw[List.all_eq_true];exact fun j hj=>h j (List.mem_range.1 hj)
theorem T4{e:Int}{nx mt:List Int}{m k:Nat}(hk:k<m)(h:cA e nx mt k=false):(List.range m).all (cA e nx mt)=false:=by
 rw[List.all_eq_false];exact⟨k,List.mem_range.2 hk,by rw[h];simp⟩
theorem yZ(n:Nd)(s:NdS)(hz:NdZ n s)(hp:n.peers<=5)(hp1:1<=n.peers)(w:World)(hM:NdM w n s):Calls Tryz.prog 88 #[aX n s] w fun e w'=>e=.returned (.bool (fK n))/\RB w w':=by
 have hzl:=hz.l;have hzx:=hz.x;have hzm:=hz.m;clear hz;have EO:=fun s W=>gD n s hzl W
 obtain⟨lo,lc,vo,vc,no,nc,mo,mc⟩:=s;have hb:=ra w (.cells (aJ n ⟨lo,lc,vo,vc,no,nc,mo,mc⟩).toArray 27)
 by_cases h1:(n.next.length:Int)=n.peers
 rotate_left
 ·have hr:fK n=false:=by simp[fK,h1]
  go_enter Tryz.func88,Tryz.ntmps88;go_wp2;go_ret;exact⟨by rw[hr];rfl,hb⟩
 by_cases h2:(n.mat.length:Int)=n.peers
 rotate_left
 ·have hr:fK n=false:=by simp[fK,h2]
  go_enter Tryz.func88,Tryz.ntmps88;go_wp2;go_ret;exact⟨by rw[hr];rfl,hb⟩
 have hr:fK n=(List.range n.next.length).all (cA n.log.length n.next n.mat):=by simp[fK,h1,h2]
 rw[hr];clear hr;have vA:=aH w n ⟨lo,lc,vo,vc,no,nc,mo,mc⟩;have hv:=hM.x.next hb;have hu:=hM.m.next hb;simp only at hv hu;clear hM;obtain⟨b,o,rfl,hty,hcl⟩:=hv (fun h=>by have:=cO n.next;rw[h]at this;simp at this;omega);obtain⟨b2,o2,rfl,hty2,hcl2⟩:=hu (fun h=>by have:=cO n.mat;rw[h]at this;simp at this;omega);have HV:Hid (∀ k,k<n.next.length->(w.alloc (.cells (aJ n ⟨lo,lc,vo,vc,some ⟨b,o,none⟩,nc,some ⟨b2,o2,none⟩,mc⟩).toArray 27)).cell? ⟨b,o+k,none⟩=some (.int .i64 (aT n.next k))/\(w.alloc (.cells (aJ n ⟨lo,lc,vo,vc,some ⟨b,o,none⟩,nc,some ⟨b2,o2,none⟩,mc⟩).toArray 27)).cell? ⟨b2,o2+k,none⟩=some (.int .i64 (aT n.mat k))):=fun k hk=>⟨hcl _ _ (fZ hk),hcl2 _ _ (fZ (by omega))⟩
 have hnm:n.next.length<=n.mat.length:=by omega
 have H1:Hid ((n.next.length:Int)=n.peers):=h1;have H2:Hid ((n.mat.length:Int)=n.peers):=h2;have g1:((n.next.length:Int) != n.peers)=false:=by simp[h1]
 have g2:((n.mat.length:Int) != n.peers)=false:=by simp[h2]
 clear hcl hty hv hcl2 hty2 hu h1 h2;go_enter Tryz.func88,Tryz.ntmps88;go_wp2;clear g1 g2;generalize (w.alloc (.cells (aJ n ⟨lo,lc,vo,vc,some ⟨b,o,none⟩,nc,some ⟨b2,o2,none⟩,mc⟩).toArray 27))=W at hb vA HV ⊢
 go_loopw [3,4,5,23] (fun x3 x4 x5 x23 wr=>∃ (k:Nat),k<=n.next.length/\x23=.int .i64 k/\(∀ j,j<k->cA n.log.length n.next n.mat j=true)/\RB W wr) (fun _ _ _ x _=>n.next.length-(intOf x).toNat)
 case atStart=>exact⟨0,Nat.zero_le _,rfl,(fun j hj=>by omega),rr _⟩
 case round=>
  obtain⟨k,hk,rfl,hq,hR⟩:=hrel
  by_cases hlt:k<n.next.length
  rotate_left
  ·obtain rfl:k=n.next.length:=by omega
   go_wp2;go_ret;exact⟨by rw[N7 hq];rfl,rt _ _ _ hb hR⟩
  have cv:=HV.out k hlt;have cv1:=aB hR nl cv.1;have cv2:=aB hR nl cv.2;clear cv;have hno:cA n.log.length n.next n.mat k=false->(List.range n.next.length).all (cA n.log.length n.next n.mat)=false:=fun h=>T4 hlt h
  have hyes:cA n.log.length n.next n.mat k=true->∀ j,j<k+1->cA n.log.length n.next n.mat j=true:=fun h j hj=>by
   by_cases e:j=k
   ·rw[e];exact h
   ·exact hq j (by omega)
  have er:cA n.log.length n.next n.mat k=decide (1<=aT n.next k/\aT n.next k<=(n.log.length:Int)+1/\0<=aT n.mat k/\aT n.mat k<=n.log.length):=rfl;rw[er]at hno hyes;clear er hq;generalize aT n.next k=x at hno hyes cv1;generalize aT n.mat k=y at hno hyes cv2;have hlt':(k:Int)<(n.next.length:Int):=by omega
  have hlt2:(k:Int)<(n.mat.length:Int):=by omega
  have vW:=vA.next hR;obtain⟨c0,c1,c2,c3,c4,c5,c6,c7,c8,c9⟩:=vW.c10;simp[lf]at c0 c1 c2 c3 c4 c5 c6 c7 c8 c9
  by_cases hx1:x<1
  ·have hf:=hno (by simp;omega)
   clear hno hyes;go_wp2;go_ret;exact⟨by rw[hf];rfl,rt _ _ _ hb hR⟩
  go_wp2_with fail
  refine (EO ⟨lo,lc,vo,vc,some ⟨b,o,none⟩,nc,some ⟨b2,o2,none⟩,mc⟩ _).mono ?_;rintro e w1 ⟨rfl,hb1⟩;have hwl:IntKind.i64.wrap ((n.log.length:Int)+1)=(n.log.length:Int)+1:=wi
  clear c0 c1 c2 c3 c4 c5 c6 c7 c8 c9;obtain⟨c0,c1,c2,c3,c4,c5,c6,c7,c8,c9⟩:=(vW.next hb1).c10;simp[lf]at c0 c1 c2 c3 c4 c5 c6 c7 c8 c9
  by_cases hx2:(n.log.length:Int)+1<x
  ·have hf:=hno (by simp;omega)
   clear hno hyes;go_wp2;go_ret;exact⟨by rw[hf];rfl,rt _ _ _ hb (rt _ _ _ hR hb1)⟩
  by_cases hy1:y<0
  ·have hf:=hno (by simp;omega)
   clear hno hyes;go_wp2;go_ret;exact⟨by rw[hf];rfl,rt _ _ _ hb (rt _ _ _ hR hb1)⟩
  go_wp2_with fail
  refine (EO ⟨lo,lc,vo,vc,some ⟨b,o,none⟩,nc,some ⟨b2,o2,none⟩,mc⟩ _).mono ?_;rintro e w2 ⟨rfl,hb2⟩
  by_cases hy2:(n.log.length:Int)<y
  ·have hf:=hno (by simp;omega)
   clear hno hyes;go_wp2;go_ret;exact⟨by rw[hf];rfl,rt _ _ _ hb (rt _ _ _ hR (rt _ _ _ hb1 hb2))⟩
  have ht:=hyes (by simp;omega);clear hno hyes;go_wp2
  go_roundw
  case rel=>exact⟨k+1,by omega,by go_num,ht,rt _ _ _ hR (rt _ _ _ hb1 hb2)⟩
  case measure=>simp[intOf];omega
theorem D1(n:Nd)(s:NdS)(hz:NdZ n s)(hp:n.peers<=5)(hp1:1<=n.peers)(w:World)(hM:NdM w n s):Calls Tryz.prog 47 #[aX n s] w fun e w'=>e=.returned (.bool (cB n))/\RB w w':=by
 have VO:=fun W h=>yY n s hz hp W h
 have RO:=fun W h=>yZ n s hz hp hp1 W h
 have hzv:=hz.v;have hzx:=hz.x;have hzm:=hz.m;clear hz;have hb:=ra w (.cells (aJ n s).toArray 27);have vA:=aH w n s;replace hM:=hM.next hb;have ev0:n.votes.isEmpty=decide (n.votes.length=0):=by cases n.votes<;>simp
 have ex0:n.next.isEmpty=decide (n.next.length=0):=by cases n.next<;>simp
 have em0:n.mat.isEmpty=decide (n.mat.length=0):=by cases n.mat<;>simp
 by_cases h3:n.role=3
 ·have er:cB n=(bB n.peers 0 n.votes&&fK n):=by simp[cB,h3]
  have g3:(n.role==3)=true:=by simp[h3]
  clear h3;go_enter Tryz.func47,Tryz.ntmps47
  go_wp2_with fail
  generalize (w.alloc _)=W at hb vA hM ⊢;refine (VO _ hM).mono ?_;rintro e w1 ⟨rfl,hb1⟩;have c:=(vA.next hb1).c10;rcases bq (bB n.peers 0 n.votes) with h|h
  ·rw[h,Bool.true_and]at er
   rw[h];obtain⟨c0,c1,c2,c3,c4,c5,c6,c7,c8,c9⟩:=c;simp[lf]at c0 c1 c2 c3 c4 c5 c6 c7 c8 c9
   go_wp2_with fail
   refine (RO _ (hM.next hb1)).mono ?_;rintro e w2 ⟨rfl,hb2⟩;go_wp2;go_ret;exact⟨by rw[er];rfl,rt _ _ _ hb (rt _ _ _ hb1 hb2)⟩
  ·rw[h,Bool.false_and]at er
   rw[h];go_wp2;go_ret;exact⟨by rw[er];rfl,rt _ _ _ hb hb1⟩
 have H3:(n.role==3)=false:=by simp[h3]
 have key:∀ (hq:n.role=1/\n.votes.length=0\/n.role=2),cB n=(bB n.peers 0 n.votes&&(n.next.isEmpty&&n.mat.isEmpty)):=fun hq=>by
  rcases hq with ⟨h1,h2⟩|h2
  ·have:n.votes=[]:=List.eq_nil_of_length_eq_zero h2
   simp[cB,h1,this,bB]
  ·simp[cB,h2]
 by_cases h1:n.role=1
 ·by_cases h2:n.votes.length=0
  rotate_left
  ·have er:cB n=false:=by simp[cB,h1,ev0,h2]
   rw[er];have h2':(0:Int)<(n.votes.length:Int):=by omega
   go_enter Tryz.func47,Tryz.ntmps47;go_wp2;go_ret;exact⟨rfl,ra _ _⟩
  rw[key (.inl ⟨h1,h2⟩)];have h2':¬ (0:Int)<(n.votes.length:Int):=by omega
  have g1:(n.role==1)=true:=by simp[h1]
  clear key h2 h3 ev0 h1;go_enter Tryz.func47,Tryz.ntmps47
  go_wp2_with fail
  generalize (w.alloc _)=W at hb vA hM ⊢;refine (VO _ hM).mono ?_;rintro e w1 ⟨rfl,hb1⟩;rcases bq (bB n.peers 0 n.votes) with h|h
  rotate_left
  ·rw[h]
   go_wp2;go_ret;exact⟨by rw[h];rfl,rt _ _ _ hb hb1⟩
  rw[h];obtain⟨c0,c1,c2,c3,c4,c5,c6,c7,c8,c9⟩:=(vA.next hb1).c10;simp[lf]at c0 c1 c2 c3 c4 c5 c6 c7 c8 c9
  by_cases hx:n.next.length=0
  rotate_left
  ·have gx:((n.next.length:Int)==0)=false:=by rw[beq_eq_false_iff_ne];omega
   have e1:n.next.isEmpty=false:=by rw[ex0];simp[hx]
   go_wp2;go_ret;exact⟨by rw[h,e1];rfl,rt _ _ _ hb hb1⟩
  have gx:((n.next.length:Int)==0)=true:=by rw[beq_iff_eq];omega
  have e1:n.next.isEmpty=true:=by rw[ex0];simp[hx]
  have HX:Hid (n.next.length=0):=hx;clear hx
  by_cases hm:n.mat.length=0
  ·have gm:((n.mat.length:Int)==0)=true:=by rw[beq_iff_eq];omega
   have e2:n.mat.isEmpty=true:=by rw[em0];simp[hm]
   clear hm;go_wp2;go_ret;exact⟨by rw[h,e1,e2];rfl,rt _ _ _ hb hb1⟩
  ·have gm:((n.mat.length:Int)==0)=false:=by rw[beq_eq_false_iff_ne];omega
   have e2:n.mat.isEmpty=false:=by rw[em0];simp[hm]
   go_wp2;go_ret;exact⟨by rw[h,e1,e2];rfl,rt _ _ _ hb hb1⟩
 have G1:(n.role==1)=false:=by simp[h1]
 by_cases h2:n.role=2
 ·rw[key (.inr h2)]
  have g1:(n.role==2)=true:=by simp[h2]
  clear key h2 h3 ev0 h1;go_enter Tryz.func47,Tryz.ntmps47
  go_wp2_with fail
  generalize (w.alloc _)=W at hb vA hM ⊢;refine (VO _ hM).mono ?_;rintro e w1 ⟨rfl,hb1⟩;rcases bq (bB n.peers 0 n.votes) with h|h
  rotate_left
  ·rw[h]
   go_wp2;go_ret;exact⟨by rw[h];rfl,rt _ _ _ hb hb1⟩
  rw[h];obtain⟨c0,c1,c2,c3,c4,c5,c6,c7,c8,c9⟩:=(vA.next hb1).c10;simp[lf]at c0 c1 c2 c3 c4 c5 c6 c7 c8 c9
  by_cases hx:n.next.length=0
  rotate_left
  ·have gx:((n.next.length:Int)==0)=false:=by rw[beq_eq_false_iff_ne];omega
   have e1:n.next.isEmpty=false:=by rw[ex0];simp[hx]
   go_wp2;go_ret;exact⟨by rw[h,e1];rfl,rt _ _ _ hb hb1⟩
  have gx:((n.next.length:Int)==0)=true:=by rw[beq_iff_eq];omega
  have e1:n.next.isEmpty=true:=by rw[ex0];simp[hx]
  have HX:Hid (n.next.length=0):=hx;clear hx
  by_cases hm:n.mat.length=0
  ·have gm:((n.mat.length:Int)==0)=true:=by rw[beq_iff_eq];omega
   have e2:n.mat.isEmpty=true:=by rw[em0];simp[hm]
   clear hm;go_wp2;go_ret;exact⟨by rw[h,e1,e2];rfl,rt _ _ _ hb hb1⟩
  ·have gm:((n.mat.length:Int)==0)=false:=by rw[beq_eq_false_iff_ne];omega
   have e2:n.mat.isEmpty=false:=by rw[em0];simp[hm]
   go_wp2;go_ret;exact⟨by rw[h,e1,e2];rfl,rt _ _ _ hb hb1⟩
 have er:cB n=false:=by simp[cB,h1,h2,h3]
 rw[er];have G2:(n.role==2)=false:=by simp[h2]
 clear h1 h2 h3 key;go_enter Tryz.func47,Tryz.ntmps47;go_wp2;go_ret;exact⟨rfl,hb⟩
def fM(p:Int)(c:Nat):Bool:=decide (p<2*(c:Int))
theorem mZ(n:Nd)(s:NdS)(c:Nat)(hc:c<=1048576)(w:World):Calls Tryz.prog 89 #[aX n s,.int .i64 (c:Int)] w fun e w'=>e=.returned (.bool (fM n.peers c))/\RB w w':=by
 have hb:=ra w (.cells (aJ n s).toArray 27);have hw:IntKind.i64.wrap (2*(c:Int))=2*(c:Int):=wi
 go_enter Tryz.func89,Tryz.ntmps89;go_wp2;go_ret;exact⟨by first|rfl|(simp[fM];done),hb⟩
theorem rA(n:Nd)(s:NdS)(hz:n.votes.length<=1048576)(w:World):Calls Tryz.prog 49 #[aX n s] w fun e w'=>e=.returned (.bool (fM n.peers n.votes.length))/\RB w w':=by
 have hb:=ra w (.cells (aJ n s).toArray 27);go_enter Tryz.func49,Tryz.ntmps49
 go_wp2_with fail
 refine (mZ n s _ hz _).mono ?_;rintro e w1 ⟨rfl,hb1⟩;go_wp2;go_ret;exact⟨rfl,rt _ _ _ hb hb1⟩
def gP(n:Nd):Bool:=decide (n.log.length<200)&&decide (0<n.term)
theorem tH(n:Nd)(s:NdS)(hz:n.log.length<=1048576)(w:World):Calls Tryz.prog 59 #[aX n s] w fun e w'=>e=.returned (.bool (gP n))/\RB w w':=by
 have hb:=ra w (.cells (aJ n s).toArray 27);have vA:=aH w n s;go_enter Tryz.func59,Tryz.ntmps59
 go_wp2_with fail
 generalize (w.alloc _)=W at hb vA ⊢;refine (gD n s hz _).mono ?_;rintro e w1 ⟨rfl,hb1⟩;have c2:=(vn vA hb1).cell (j:=2) (by omega);simp[lf]at c2
 by_cases h:(n.log.length:Int)<200
 ·have e1:decide (n.log.length<200)=true:=by simp;omega
  go_wp2;go_ret;exact⟨by simp[gP,e1],rt _ _ _ hb hb1⟩
 ·have e1:decide (n.log.length<200)=false:=by simp;omega
  go_wp2;go_ret;exact⟨by simp[gP,e1],rt _ _ _ hb hb1⟩
def bV(n:Nd):Nd:=⟨n.id,n.peers,n.term,n.vote,n.log,1,n.commit,[],[],[]⟩
def rB(s:NdS):NdS:=⟨s.lo,s.lc,none,0,none,0,none,0⟩
theorem nX(n:Nd)(s:NdS)(w:World):Calls Tryz.prog 32 #[aX n s] w fun e w'=>e=.returned (aX (bV n) (rB s))/\RB w w':=by
 have hb:=rt _ _ _ (ra w (.cells (aJ n s).toArray 27)) (ra _ (.cells (aJ aU aP).toArray 27));have vA:NdB _ w.heap.size n s:=(aH w n s).next (ra _ (.cells (aJ aU aP).toArray 27));have vR:=aH (w.alloc (.cells (aJ n s).toArray 27)) aU aP;rw[World.size_alloc]at vR;go_enter Tryz.func32,Tryz.ntmps32
 go_wp2_with (first|(with_reducible refine wN 2 (.tmp 3) (.const (.int .i64 1)) w.heap.size 5 (.int .i64 1) ⟨n.id,n.peers,n.term,n.vote,n.log,1,n.commit,n.votes,n.next,n.mat⟩ s vA ?_;intro W0 vA0 hg;replace vR:NdB W0 (w.heap.size+1) aU aP:=VHas.grown vR hg (fun e=>by have:=oI e;omega);replace hb:=aV hb hg nl;clear vA hg;have vA:=vA0;clear vA0)|(with_reducible refine wN 25 (.tmp 4) (.const (.slice none 0 0)) w.heap.size 7 (.slice none 0 0) ⟨n.id,n.peers,n.term,n.vote,n.log,1,n.commit,[],n.next,n.mat⟩ ⟨s.lo,s.lc,none,0,s.no,s.nc,s.mo,s.mc⟩ vA ?_;intro W1 vA0 hg;replace vR:NdB W1 (w.heap.size+1) aU aP:=VHas.grown vR hg (fun e=>by have:=oI e;omega);replace hb:=aV hb hg nl;clear vA hg;have vA:=vA0;clear vA0)|(with_reducible refine wN 25 (.tmp 5) (.const (.slice none 0 0)) w.heap.size 8 (.slice none 0 0) ⟨n.id,n.peers,n.term,n.vote,n.log,1,n.commit,[],[],n.mat⟩ ⟨s.lo,s.lc,none,0,none,0,s.mo,s.mc⟩ vA ?_;intro W2 vA0 hg;replace vR:NdB W2 (w.heap.size+1) aU aP:=VHas.grown vR hg (fun e=>by have:=oI e;omega);replace hb:=aV hb hg nl;clear vA hg;have vA:=vA0;clear vA0)|(with_reducible refine wN 25 (.tmp 6) (.const (.slice none 0 0)) w.heap.size 9 (.slice none 0 0) (bV n) (rB s) vA ?_;intro W3 vA0 hg;replace vR:NdB W3 (w.heap.size+1) aU aP:=VHas.grown vR hg (fun e=>by have:=oI e;omega);replace hb:=aV hb hg nl;clear vA hg;have vA:=vA0;clear vA0;obtain⟨d0,d1,d2,d3,d4,d5,d6,d7,d8,d9⟩:=VHas.c10 vA;simp[lf,bV,rB]at d0 d1 d2 d3 d4 d5 d6 d7 d8 d9)|(with_reducible refine gY rfl 27 (.tmp 2) (.tmp 7) rfl rfl (w.heap.size+1) (aJ (bV n) (rB s)) (by simp[go_sem]) (by simp[go_sem,bV,rB]) vR (by kernel_rfl) (cD (by kernel_rfl)) ?_;intro W9 hv9 hg9))
 obtain⟨q0,q1,q2,q3,q4,q5,q6,q7,q8,q9⟩:=cN hv9;exact bodyPost_ret (v:=aX (bV n) (rB s)) (by simp[results,Tryz.results32,go_sem,q0,q1,q2,q3,q4,q5,q6,q7,q8,q9,bV,rB]) rfl ⟨rfl,aV hb hg9 (by omega)⟩
def jZ(i:Int)(l:List Int):Nat:=l.countP fun m=>decide (i<=m)
theorem qH(n:Nd)(s:NdS)(i:Int)(hz:n.mat.length<=1048576)(w:World)(hM:NdM w n s):Calls Tryz.prog 108 #[aX n s,.int .i64 i] w fun e w'=>e=.returned (.int .i64 (jZ i n.mat:Int))/\RB w w':=by
 obtain⟨lo,lc,vo,vc,no,nc,mo,mc⟩:=s;have hb:=ra w (.cells (aJ n ⟨lo,lc,vo,vc,no,nc,mo,mc⟩).toArray 27);have vA:=aH w n ⟨lo,lc,vo,vc,no,nc,mo,mc⟩;have hv:=hM.m.next hb;simp only at hv;clear hM
 by_cases hl:n.mat.length=0
 ·have hne:n.mat=[]:=List.eq_nil_of_length_eq_zero hl
  go_enter Tryz.func108,Tryz.ntmps108;go_wp2
  go_loopw [5,7,11] (fun x5 x7 x11 wr=>x5=.int .i64 0/\x11=.int .i64 0/\RB w wr) (fun _ _ _ _=>0)
  case atStart=>exact⟨rfl,rfl,ra _ _⟩
  case round=>
   obtain⟨rfl,rfl,hR⟩:=hrel;go_wp2;go_ret;exact⟨by rw[hne];rfl,hR⟩
 obtain⟨b,o,rfl,hty,hcl⟩:=hv (fun h=>by have:=cO n.mat;rw[h]at this;simp at this;omega);have HV:Hid (∀ k,k<n.mat.length->(w.alloc (.cells (aJ n ⟨lo,lc,vo,vc,no,nc,some ⟨b,o,none⟩,mc⟩).toArray 27)).cell? ⟨b,o+k,none⟩=some (.int .i64 (aT n.mat k))):=fun k hk=>hcl _ _ (fZ hk)
 clear hl hcl hty hv;go_enter Tryz.func108,Tryz.ntmps108;go_wp2;generalize (w.alloc (.cells (aJ n ⟨lo,lc,vo,vc,no,nc,some ⟨b,o,none⟩,mc⟩).toArray 27))=W at hb vA HV ⊢
 go_loopw [5,7,11] (fun x5 x7 x11 wr=>∃ k:Nat,k<=n.mat.length/\x11=.int .i64 k/\x5=.int .i64 (jZ i (n.mat.take k):Int)/\RB W wr) (fun _ _ x _=>n.mat.length-(intOf x).toNat)
 case atStart=>exact⟨0,Nat.zero_le _,rfl,rfl,rr _⟩
 case round=>
  obtain⟨k,hk,rfl,rfl,hR⟩:=hrel;have hcle:jZ i (n.mat.take k)<=1048576:=Nat.le_trans (List.countP_le_length ..) (by simp;omega)
  by_cases hlt:k<n.mat.length
  rotate_left
  ·obtain rfl:k=n.mat.length:=by omega
   go_wp2;go_ret;exact⟨by rw[List.take_length];rfl,rt _ _ _ hb hR⟩
  have cv:=aB hR nl (HV.out k hlt)
  have ec:jZ i (n.mat.take (k+1))=jZ i (n.mat.take k)+(if i<=aT n.mat k then 1 else 0):=by
   rw[List.take_succ_eq_append_getElem hlt];have e:aT n.mat k=n.mat[k]:=by simp[aT,hlt]
   rw[e];simp only[jZ,List.countP_append,List.countP_singleton,decide_eq_true_eq]
  generalize aT n.mat k=x at cv ec;have hlt':(k:Int)<(n.mat.length:Int):=by omega
  generalize jZ i (n.mat.take k)=c at hcle ec ⊢
  by_cases h1:i<=x
  ·rw[if_pos h1]at ec
   go_wp2
   go_roundw
   case rel=>exact⟨k+1,by omega,by go_num,by rw[ec];go_num,hR⟩
   case measure=>simp[intOf];omega
  ·rw[if_neg h1]at ec
   go_wp2
   go_roundw
   case rel=>exact⟨k+1,by omega,by go_num,by rw[ec];rfl,hR⟩
   case measure=>simp[intOf];omega
def gG(n:Nd)(to:Int):Ms:=⟨1,n.term,n.id,to,n.log.length,bM n.log,[],0,false⟩
def eK(n:Nd)(i to:Nat):Ms:=⟨3,n.term,n.id,to,i,bM (n.log.take i),(n.log.drop i).take 5,n.commit,false⟩
theorem nS(n:Nd)(s:NdS)(hz:NdZ n s)(to i:Nat)(hto:to<n.next.length)(hx:aT n.next to=(i:Int)+1)(hi:i<=n.log.length)(w:World)(hM:NdM w n s):Calls Tryz.prog 55 #[aX n s,.int .i64 (to:Int)] w fun e w'=>∃ a c,e=.returned (eS (eK n i to) a c)/\OwE w' w.heap.size a c ((n.log.drop i).take 5)/\RB w w':=by
 have hlc:=hz.lc;have hzl:=hz.l;have hzx:=hz.x;clear hz;obtain⟨lo,lc,vo,vc,no,nc,mo,mc⟩:=s;simp only at hlc;obtain⟨b2,o2,e,_,hcl⟩:=hM.x (fun h=>by have:=cO n.next;rw[h]at this;simp at this;omega);simp only at e;subst e;have hrow:=hcl _ _ (fZ hto);rw[hx]at hrow;clear hcl
 have hLT:∀ W,NdM W n ⟨lo,lc,vo,vc,some ⟨b2,o2,none⟩,nc,mo,mc⟩->Calls Tryz.prog 86 #[.slice lo i lc] W fun e w'=>e=.returned (.int .i64 (bM (n.log.take i)))/\RB W w':=fun W h=>by
  have hl:(n.log.take i).length=i:=by rw[List.length_take];omega
  have h1:=LRow.n (l:=n.log.take i) (by rw[iI];exact h.l.take _);have:=fH lo (n.log.take i).length lc (cL (n.log.take i)) (cS (n.log.take i)) (by omega) W h1;rw[hl]at this;refine this.mono fun e w2 h=>⟨?_,by rw[h.2];exact rr _⟩
  rw[h.1];unfold bM;rw[hl]
 have hb:=rt _ _ _ (ra w (.cells (aJ n ⟨lo,lc,vo,vc,some ⟨b2,o2,none⟩,nc,mo,mc⟩).toArray 27)) (ra _ (.cells (bZ gW none 0).toArray 29));have vA:NdB _ w.heap.size n ⟨lo,lc,vo,vc,some ⟨b2,o2,none⟩,nc,mo,mc⟩:=(aH w n ⟨lo,lc,vo,vc,some ⟨b2,o2,none⟩,nc,mo,mc⟩).next (ra _ (.cells (bZ gW none 0).toArray 29));have vR:=bJ (w.alloc (.cells (aJ n ⟨lo,lc,vo,vc,some ⟨b2,o2,none⟩,nc,mo,mc⟩).toArray 27)) gW none 0;rw[World.size_alloc]at vR;replace hM:=hM.next hb;replace hrow:=aB hb nl hrow;have hto1:(to:Int)<(n.next.length:Int):=by omega
 have hto0:(0:Int)<=(to:Int):=by omega
 have htt:(to:Int).toNat=to:=by omega
 have hwi:IntKind.i64.wrap (i:Int)=(i:Int):=wi
 clear hto hx;go_enter Tryz.func55,Tryz.ntmps55
 go_wp2_with fail
 generalize ((w.alloc _).alloc _)=W at hb vA vR hM hrow ⊢;have hd:RB W W.drew:=(Below.refl _ _).drew;replace hb:=rt _ _ _ hb hd;replace vA:NdB W.drew w.heap.size n ⟨lo,lc,vo,vc,some ⟨b2,o2,none⟩,nc,mo,mc⟩:=vn vA hd;replace vR:MsB W.drew (w.heap.size+1) gW none 0:=vn vR hd;replace hM:=hM.next hd;replace hrow:=aB hd nl hrow
 refine bQ (by kernel_rfl) (by kernel_rfl) RB rr rt
  [isV (.pointer (some ⟨w.heap.size,4,none⟩)),isV (.slice lo n.log.length lc),isV (.pointer (some ⟨w.heap.size,8,none⟩)),isV (.slice (some ⟨b2,o2,none⟩) n.next.length nc),isV (.int .i64 (to:Int)),isV (.pointer (some ⟨b2,o2+to,none⟩)),isV (.int .i64 ((i:Int)+1)),isV (.int .i64 (i:Int)),isV (.slice lo i lc),isV (.pointer (some ⟨w.heap.size,4,none⟩)),isV (.slice lo n.log.length lc),isV (.pointer (some ⟨w.heap.size,8,none⟩)),isV (.slice (some ⟨b2,o2,none⟩) n.next.length nc),isV (.int .i64 (to:Int)),isV (.pointer (some ⟨b2,o2+to,none⟩)),isV (.int .i64 ((i:Int)+1)),isV (.int .i64 (i:Int)),SlE (n.log.drop i),isV (.slice lo i lc),SlE (n.log.drop i)]
  ⟨iR,iR,iR,iR,iR,iR,iR,iR,iR,iR,iR,iR,iR,iR,iR,iR,iR,SlE.rb,iR,SlE.rb,trivial⟩ rfl ?_ ?_
 ·refine⟨?_,?_,?_,?_,?_,?_,?_,?_,?_,?_,?_,?_,?_,?_,?_,?_,?_,?_,?_,?_,trivial⟩
  ·exact ow 2
  ·exact oc 0 7 fun _ hR=>(vA.next hR).cell (j:=4) (by omega)
  ·exact ow 2
  ·exact oc 2 9 fun _ hR=>(vA.next hR).cell (j:=8) (by omega)
  ·exact ow 1
  ·exact oq rfl fun ev w' v hR E pr=>by
    have e1:=E.eq pr 3 10;have e2:=E.eq pr 4 11;simp[go_sem,hto1,hto0,htt,e1,e2]
  ·exact oq rfl fun ev w' v hR E pr=>by
    have e1:=E.eq pr 5 12;have cc:=aB hR nl hrow;simp[go_sem,cc,e1]
  ·exact mQ 6 13 hwi
  ·exact oq rfl fun ev w' v hR E pr=>by
    have e1:=E.eq pr 1 8;have e2:=E.eq pr 7 14;exact rR rfl e1 e2 hi hlc
  ·exact ow 2
  ·exact oc 9 16 fun _ hR=>(vA.next hR).cell (j:=4) (by omega)
  ·exact ow 2
  ·exact oc 11 18 fun _ hR=>(vA.next hR).cell (j:=8) (by omega)
  ·exact ow 1
  ·exact oq rfl fun ev w' v hR E pr=>by
    have e1:=E.eq pr 12 19;have e2:=E.eq pr 13 20;simp[go_sem,hto1,hto0,htt,e1,e2]
  ·exact oq rfl fun ev w' v hR E pr=>by
    have e1:=E.eq pr 14 21;have cc:=aB hR nl hrow;simp[go_sem,cc,e1]
  ·exact mQ 15 22 hwi
  ·refine OpOk.val rfl fun ev w' v hR E pr=>?_
   have e1:=E.eq pr 10 17;have e2:=E.eq pr 16 23;exact CE (l:=n.log) rfl e1 e2 hi hlc (hM.next hR).l
  ·exact o1 8 15
  ·refine OpOk.val rfl fun ev w' v hR E pr=>?_
   obtain⟨ao',c',e1,h1,h2⟩:SlE (n.log.drop i) (ev (.tmp 24)) w':=E.get pr 17 24;exact⟨_,w',by simp[go_sem,e1],rr _,ao',c',rfl,h1,h2⟩
 ·intro v w' hR hp
  obtain⟨_,_,_,_,_,_,_,_,_,_,_,_,_,_,_,_,_,_,p18,p19,_⟩:=hp;replace p18:v 18=.slice lo i lc:=p18;obtain⟨aR,cR,p19,hcR,hrR⟩:=p19;simp only[bF,Nat.zero_add,Nat.reduceAdd,p18,p19,Act.put,sY,sZ,ss];clear hrow;replace hb:=rt _ _ _ hb hR;replace vA:NdB w' w.heap.size n ⟨lo,lc,vo,vc,some ⟨b2,o2,none⟩,nc,mo,mc⟩:=vn vA hR;replace vR:MsB w' (w.heap.size+1) gW none 0:=vn vR hR;replace hM:=hM.next hR;clear hR hd
  go_wp2_with fail
  have hd:RB w' w'.drew:=(Below.refl _ _).drew;replace hb:=rt _ _ _ hb hd;replace vA:NdB w'.drew w.heap.size n ⟨lo,lc,vo,vc,some ⟨b2,o2,none⟩,nc,mo,mc⟩:=vn vA hd;replace vR:MsB w'.drew (w.heap.size+1) gW none 0:=vn vR hd;replace hM:=hM.next hd;replace hrR:=hrR.next hd
  refine bW (by kernel_rfl) (by kernel_rfl) (by kernel_rfl) RB rr rt
   [isV (.pointer (some ⟨w.heap.size,2,none⟩)),isV (.int .i64 n.term),isV (.pointer (some ⟨w.heap.size,0,none⟩)),isV (.int .i64 n.id),isV (.int .i64 (to:Int)),isV (.slice lo i lc),isV (.int .i64 (i:Int)),isV (.slice lo i lc),isV (.int .i64 (bM (n.log.take i))),isV (.slice aR (n.log.drop i).length cR),isV (.slice aR (n.log.drop i).length cR),isV (.int .i64 ((n.log.drop i).length:Int)),isV (.int .i64 ((((n.log.drop i).take 5).length:Nat):Int)),isV (.slice aR ((n.log.drop i).take 5).length cR),fun v w'=>∃ a c,v=.slice a ((n.log.drop i).take 5).length c/\OwE w' w.heap.size a c ((n.log.drop i).take 5),isV (.pointer (some ⟨w.heap.size,6,none⟩)),isV (.int .i64 n.commit),fun v w'=>∃ a c,v=eS (eK n i to) a c/\OwE w' w.heap.size a c ((n.log.drop i).take 5)]
   ⟨iR,iR,iR,iR,iR,iR,iR,iR,iR,iR,iR,iR,iR,iR,fun _ _ _ h hb=>by obtain⟨a,c,e,h⟩:=h;exact⟨a,c,e,h.next hb⟩,iR,iR,fun _ _ _ h hb=>by obtain⟨a,c,e,h⟩:=h;exact⟨a,c,e,h.next hb⟩,trivial⟩ rfl ?_ _ rfl rfl rfl
   (fun v w''=>∃ a c,VHas w'' (w.heap.size+1) 29 9 (lf (bZ (eK n i to) a c))/\OwE w'' w.heap.size a c ((n.log.drop i).take 5)/\RB w w'') ?_ ?_
  ·simp only[List.size_toArray,List.length_cons,List.length_nil,Nat.reduceAdd,Nat.reduceSub,List.take_succ_cons,List.take_zero]
   refine⟨?_,?_,?_,?_,?_,?_,?_,?_,?_,?_,?_,?_,?_,?_,?_,?_,?_,?_,trivial⟩
   ·exact ow 2
   ·exact oc 0 25 fun _ hR=>(vA.next hR).cell (j:=2) (by omega)
   ·exact ow 2
   ·exact oc 2 27 fun _ hR=>(vA.next hR).cell (j:=0) (by omega)
   ·exact ow 1
   ·exact ow 5
   ·exact o1 5 30
   ·exact ow 5
   ·exact OpOk.ret _ (fun _=>rfl) fun ev w' v hR E pr=>by
     have e1:=E.eq pr 7 32;refine⟨86,#[.slice lo i lc],by simp[go_sem,gv,e1,E.fn],?_⟩;exact (hLT _ (hM.next hR))
   ·exact ow 6
   ·exact ow 6
   ·exact oq rfl fun ev w' v hR E pr=>by
     have e1:=E.eq pr 10 35;generalize (n.log.drop i).length=q at e1;simp[go_sem,e1]
   ·exact oq rfl fun ev w' v hR E pr=>by
     have e1:=E.eq pr 11 36;have hm:((((n.log.drop i).take 5).length:Nat):Int)=min ((n.log.drop i).length:Int) 5:=by rw[List.length_take];omega
     rw[hm];exact pG rfl e1 (E.con _)
   ·exact oq rfl fun ev w' v hR E pr=>by
     have e1:=E.eq pr 9 34;have e2:=E.eq pr 12 37;exact rR rfl e1 e2 (by rw[List.length_take];omega) hcR
   ·refine OpOk.call rfl fun ev w' v hR E pr=>?_
    have e1:=E.eq pr 13 38;refine⟨70,#[.slice aR ((n.log.drop i).take 5).length cR],by simp only[execOp,resolve,invoke,E.fn,e1];simp[go_sem,E.fn,e1],(rZ aR cR ((n.log.drop i).take 5) (by rw[List.length_take];omega) _ (by rw[iI];exact (hrR.next hR).take _)).mono ?_⟩;rintro e w2 ⟨a,c,rfl,ho,hb2⟩;exact⟨_,rfl,hb2,a,c,rfl,ho.from (rt _ _ _ hb hR).size⟩
   ·exact ow 2
   ·exact oc 15 40 fun _ hR=>(vA.next hR).cell (j:=6) (by omega)
   ·refine OpOk.val rfl fun ev w' v hR E pr=>?_
    have e1:=E.eq pr 1 26;have e2:=E.eq pr 3 28;have e3:=E.eq pr 4 29;have e4:=E.eq pr 6 31;have e5:=E.eq pr 8 33;obtain⟨a,c,e6,ho⟩:∃ a c,ev (.tmp 39)=.slice a ((n.log.drop i).take 5).length c/\OwE w' w.heap.size a c ((n.log.drop i).take 5):=E.get pr 14 39;have e7:=E.eq pr 16 41;refine⟨eS (eK n i to) a c,w',(?_:_=Result.ok (Next.value (.agg #[.int .i64 3,.int .i64 n.term,.int .i64 n.id,.int .i64 (to:Int),.int .i64 (i:Int),.int .i64 (bM (n.log.take i)),.slice a ((n.log.drop i).take 5).length c,.int .i64 n.commit,.bool false])) w'),rr _,a,c,rfl,ho⟩;generalize ((n.log.drop i).take 5).length=q at e6 ⊢;simp[go_sem,e1,e2,e3,e4,e5,e6,e7,E.con]
  ·intro ev w' v hR E hp
   obtain⟨_,_,_,_,_,_,_,_,_,_,_,_,_,_,_,_,_,p17,_⟩:=hp;obtain⟨a,c,p17,ho⟩:=p17;have E1:=E.at_ 17 42 rfl (by kernel_rfl) (nb (by kernel_rfl));rw[p17]at E1;have E2:ev (.tmp 4)=.pointer (some ⟨w.heap.size+1,0,none⟩):=E.was 4 _;have vR':=vR.next hR;have hg:=bP (w.heap.size+1) (bZ (eK n i to) a c) 0 w';exact⟨_,bU (bZ (eK n i to) a c) rfl E2 E1 vR' (by kernel_rfl) (cD (by kernel_rfl)),a,c,bE _ vR',ho.gr hg (fun x e=>by cases e;exact vR'.typed) (by decide),aV (rt _ _ _ hb hR) hg (by omega)⟩
  ·rintro v w8 ⟨a,c,hv9,ho9,hb9⟩
   simp only[List.size_toArray,List.length_cons,List.length_nil,Nat.reduceAdd,Nat.reduceSub,List.take_succ_cons,List.take_zero,bF,Act.put,sY,sZ,ss];obtain⟨q0,q1,q2,q3,q4,q5,q6,q7,q8⟩:=VHas.c9 hv9;simp[lf]at q0 q1 q2 q3 q4 q5 q6 q7 q8;go_wp2;exact bodyPost_ret (v:=eS (eK n i to) a c) (by simp[results,Tryz.results55,go_sem,q0,q1,q2,q3,q4,q5,q6,q7,q8]) rfl ⟨a,c,rfl,ho9,hb9⟩
end
section
open Go Go.RowKit
theorem mT(a b:List Value)(j:Nat):lf (a++b) j=if j<a.length then lf a j else lf b (j-a.length):=by
 unfold lf
 by_cases h:j<a.length
 ·simp[h,List.getD_eq_getElem?_getD,List.getElem?_append_left h]
 ·simp[h,List.getD_eq_getElem?_getD,List.getElem?_append_right (Nat.le_of_not_lt h)]
theorem gF{P:Program}{ops:Array Oper}{o:Oper}{rest:List Oper}{a:Act}{w:World}{Q:Exit->Act->World->Prop}(hgd:o.guard=none)(s x:Operand){t e:TypeId}{size bytes:Nat}(E:ElI P t e size bytes)(ho:o.op=.call { callee:=.builtin .append,args:=#[s,x],argTypes:=#[t,t] })(d:Nat)(hd:o.dst=some d)(base:Nat)(f:Nat->Value)(ao:Option Addr)(n cap:Nat)(hs:a.eval s=.slice ao n cap)(h0:GOwn w base e size ao n cap f)(so:Option Addr)(m c:Nat)(g:Nat->Value)(hx:a.eval x=.slice so m c)(hr:GRow w so (m*size) g)(h1:∀ j,j<m*size->(g j).oneCell'=true)(hn:n+m<=100000000)(hbase:base<=w.heap.size)
  (h:∀ ao' cap' w',GOwn w' base e size ao' (n+m) cap' (fun j=>if j<n*size then f j else g (j-n*size))->w.grownBy w' (Value.slice ao n cap).ownBlock->wpList P ops Q rest (a.put (some d) (.slice ao' (n+m) cap')) w'):wpList P ops Q (o :: rest) a w:=by
 refine fY hgd s x E ho d hd base f ao n cap hs h0 so m c (fun j=>if j<m*size then g j else .bool false) hx (fun hm=>?_) (fun j=>?_) hn hbase (fun ao' cap' w' h2 h3 _=>h ao' cap' w' (h2.congr (fun j hj=>?_)) h3)
 ·obtain⟨b,o',e',hc⟩:=hr hm
  exact⟨b,o',e',fun j hj=>by rw[hc j hj];simp only[if_pos hj]⟩
 ·split
  ·next q=>exact h1 j q
  ·rfl
 ·by_cases q:j<n*size
  ·rw[if_pos q,if_pos q]
  ·rw[if_neg q,if_neg q,if_pos (by rw[Nat.add_mul]at hj;omega)]
theorem nJ{w:World}{b n:Nat}{t:TypeId}{f:Nat->Value}(h:VHas w b t n f):GRow w (some ⟨b,0,none⟩) n f:=fun _=>⟨b,0,rfl,fun j hj=>by rw[Nat.zero_add];exact h.cell hj⟩
structure Mq where
 m:Ms
 eo:Option Addr
 ec:Nat
def jV:List Mq->List Value
 | []=>[]
 | q :: r=>bZ q.m q.eo q.ec++jV r
theorem dX:∀ l:List Mq,(jV l).length=l.length*9
 | []=>rfl
 | q :: r=>by simp[jV,dX r];omega
theorem wY:∀ a b:List Mq,jV (a++b)=jV a++jV b
 | [],b=>rfl
 | q :: a,b=>by simp[jV,wY a b]
theorem rE(q:Mq)(j:Nat)(h:j<9):(lf (bZ q.m q.eo q.ec) j).oneCell'=true:=by
 have:j=0\/j=1\/j=2\/j=3\/j=4\/j=5\/j=6\/j=7\/j=8:=by omega
 rcases this with rfl|rfl|rfl|rfl|rfl|rfl|rfl|rfl|rfl<;>rfl
theorem Tryz.infoMessage:(Tryz.prog.info? 29).map (fun i=>(i.zero,i.size,i.bytes))=some (some (.agg #[.int .i64 0,.int .i64 0,.int .i64 0,.int .i64 0,.int .i64 0,.int .i64 0,.slice none 0 0,.int .i64 0,.bool false]),9,88):=by kernel_rfl
theorem Tryz.elM:ElI Tryz.prog 32 29 9 88:=⟨Tryz.underlying32,by
 obtain⟨i0,hi0,hz0,hz1,hz2⟩:=info_parts Tryz.infoMessage
 exact⟨i0,_,hi0,hz0,hz1,hz2,rfl⟩,by omega,by omega⟩
structure NetO(w:World)(base:Nat)(ao:Option Addr)(cap:Nat)(l:List Mq):Prop where
 o:GOwn w base 29 9 ao l.length cap (lf (jV l))
 e:∀ q∈l,OwE w base q.eo q.ec q.m.ents
theorem NetO.next{w w':World}{base:Nat}{ao:Option Addr}{cap:Nat}{l:List Mq}(h:NetO w base ao cap l)(hb:Below w.heap.size w w'):NetO w' base ao cap l:=⟨h.o.next hb,fun q hq=>(h.e q hq).next hb⟩
theorem NetO.nil(w:World)(base:Nat):NetO w base none 0 []:=⟨GOwn.nil _ _ _ _ _,fun q hq=>by cases hq⟩
theorem NetO.more{w w':World}{base:Nat}{ao ao':Option Addr}{cap cap':Nat}{l:List Mq}{q:Mq}(h:NetO w base ao cap l)(hq:OwE w base q.eo q.ec q.m.ents)(hg:w.grownBy w' (Value.slice ao l.length cap).ownBlock)
  (ho:GOwn w' base 29 9 ao' (l.length+1) cap' (fun j=>if j<l.length*9 then lf (jV l) j else lf (bZ q.m q.eo q.ec) (j-l.length*9))):NetO w' base ao' cap' (l++[q]):=by
 have hT:∀ x,(Value.slice ao l.length cap).ownBlock=some x->aG w x 29:=fun x e=>h.o.typed e
 refine⟨?_,fun p hp=>?_⟩
 ·have e:(l++[q]).length=l.length+1:=by simp
  rw[e];refine ho.congr (fun j hj=>?_);have e2:jV (l++[q])=jV l++bZ q.m q.eo q.ec:=by rw[wY];simp[jV]
  rw[e2,mT,dX]
 ·rcases List.mem_append.1 hp with hp|hp
  ·exact (h.e p hp).gr hg hT (by decide)
  ·simp at hp
   subst hp;exact hq.gr hg hT (by decide)
end
section
open Go Go.RowKit
attribute [local go_sem ↓] Go.wp_at_zero Go.wp_at_succ
def eE(id:Int)(g:Nat->Ms):Nat->List Ms
 | 0=>[]
 | k+1=>if (k:Int)=id then eE id g k else eE id g k++[g k]
theorem gK(id:Int)(g:Nat->Ms):∀ k,(eE id g k).length<=k
 | 0=>Nat.le_refl _
 | k+1=>by
  have:=gK id g k;simp only[eE]
  split
  ·omega
  ·simp;omega
def NetV(base:Nat)(ms:List Ms)(v:Value)(w:World):Prop:=∃ ao cap l,v=.slice ao l.length cap/\l.map (·.m)=ms/\NetO w base ao cap l
theorem xG(n:Nd)(s:NdS)(fd:Nat)(g:Nat->Ms)(P:Nat)(hP:n.peers=P)(hP5:P<=5)(w:World)
  (hen:∀ args w,Sem.run Tryz.prog (callFunc fd args) w=.ok (.enter fd args) w)
  (HF:∀ W (k:Nat),k<P->RB w W->Calls Tryz.prog fd #[aX n s,.int .i64 (k:Int)] W fun e w'=>∃ a c,e=.returned (eS (g k) a c)/\OwE w' w.heap.size a c (g k).ents/\RB W w'):
  Calls Tryz.prog 51 #[aX n s,.func (.func fd) #[] #[]] w fun e w'=>∃ v,e=.returned v/\NetV w.heap.size (eE n.id g P) v w'/\RB w w':=by
 have hb:=ra w (.cells (aJ n s).toArray 27);have vA:=aH w n s;have HP:Hid (n.peers=P):=hP;clear hP;go_enter Tryz.func51,Tryz.ntmps51;go_wp2;generalize (w.alloc _)=W at hb vA ⊢
 go_loopw [5,6,9] (fun x5 x6 x9 wr=>∃ k:Nat,k<=P/\x9=.int .i64 (k:Int)/\NetV w.heap.size (eE n.id g k) x5 wr/\NdB wr w.heap.size n s/\RB w wr) (fun _ _ x _=>P-(intOf x).toNat)
 case atStart=>exact⟨0,Nat.zero_le _,rfl,⟨none,0,[],rfl,rfl,NetO.nil _ _⟩,vA,hb⟩
 case round=>
  obtain⟨k,hk,rfl,⟨ao,cap,l,rfl,hl,hN⟩,vW,hR⟩:=hrel;clear vA hb
  by_cases hlt:k<P
  rotate_left
  ·obtain rfl:k=P:=by omega
   have hge:¬ (k:Int)<n.peers:=by have:=HP.out;omega
   clear HP;go_wp2;go_ret;exact⟨_,rfl,⟨ao,cap,l,rfl,hl,hN⟩,hR⟩
  have hlt':(k:Int)<n.peers:=by have:=HP.out;omega
  have hll:l.length<=5:=by
   have h1:=gK n.id g k;rw[<-hl,List.length_map]at h1;omega
  have hw1:IntKind.i64.wrap ((k:Int)+1)=(k:Int)+1:=wi
  obtain⟨c0,c1,c2,c3,c4,c5,c6,c7,c8,c9⟩:=cN vW
  by_cases hid:(k:Int)=n.id
  ·have e:eE n.id g (k+1)=eE n.id g k:=by simp only[eE];rw[if_pos hid]
   have hid':((k:Int) != n.id)=false:=by simp[hid]
   clear hid;go_wp2
   go_roundw
   case rel=>exact⟨k+1,by omega,by go_num,⟨ao,cap,l,rfl,hl.trans e.symm,hN⟩,vW,hR⟩
   case measure=>first|(simp[intOf];omega)|(simp[intOf];done)
  have e:eE n.id g (k+1)=eE n.id g k++[g k]:=by simp only[eE];rw[if_neg hid]
  have hid':((k:Int) != n.id)=true:=by simp[hid]
  go_wp2_with fail
  refine (HF _ k hlt hR).mono ?_;rintro e1 w1 ⟨a,c,rfl,ho,hb1⟩;clear c0 c1 c2 c3 c4 c5 c6 c7 c8 c9;have hal:=ra w1 (.cells (bZ (g k) a c).toArray 29);have hbx:=bJ w1 (g k) a c;have hN2:=(hN.next hb1).next hal;have ho2:=ho.next hal;have vW2:NdB (w1.alloc (.cells (bZ (g k) a c).toArray 29)) w.heap.size n s:=vn (vn vW hb1) hal;have hR2:=rt _ _ _ (rt _ _ _ hR hb1) hal;have hgr:GRow (w1.alloc (.cells (bZ (g k) a c).toArray 29)) (some ⟨w1.heap.size,0,none⟩) (1*9) (lf (bZ (g k) a c)):=nJ hbx;have hon:∀ j,j<1*9->(lf (bZ (g k) a c) j).oneCell'=true:=fun j hj=>rE ⟨g k,a,c⟩ j (by omega)
  have hlen:l.length+1<=100000000:=by omega
  have hsz:=hR2.size
  go_wp2_with (at_builtin;with_reducible refine gF rfl (.tmp 16) (.tmp 21) Tryz.elM rfl 22 rfl w.heap.size _ ao l.length cap (by simp[go_sem]) hN2.o (some ⟨w1.heap.size,0,none⟩) 1 1 (lf (bZ (g k) a c)) (by simp[go_sem]) hgr hon hlen hsz ?_;intro ao' cap' w2 hown hg)
  go_roundw
  case rel=>
   have hT:∀ x,(Value.slice ao l.length cap).ownBlock=some x->aG _ x 29:=fun x e=>hN2.o.typed e
   refine⟨k+1,by omega,by go_num,⟨ao',cap',l++[⟨g k,a,c⟩],by simp,by rw[List.map_append,hl,e];rfl,hN2.more ho2 hg hown⟩,VHas.gr vW2 hg hT (by decide),pY hR2 hg (fun x e=>(hN2.o.at e).1)⟩
  case measure=>first|(simp[intOf];omega)|(simp[intOf];done)
end
section
open Go Go.RowKit
theorem GOwn.set{w:World}{base:Nat}{t:TypeId}{size g n cap:Nat}{f:Nat->Value}(h:GOwn w base t size (some ⟨g,0,none⟩) n cap f)(k:Nat)(hk:k<n*size)(v:Value):GOwn (w.setCell ⟨g,k,none⟩ v) base t size (some ⟨g,0,none⟩) n cap (fun j=>if j=k then v else f j):=by
 obtain⟨hl,ho⟩:=h;rcases ho with ⟨e,_⟩|⟨g',cap',cur,e,hb,hblk,h1,h2,h3,h4⟩
 ·cases e
 cases e;refine⟨bR _ _,.inr ⟨g,cap,cur.setIfInBounds k v,rfl,hb,?_,h1,h2,by simpa using h3,?_⟩⟩
 ·simp[World.setCell,Array.getElem?_modify,hblk]
 ·apply List.ext_getElem?
  intro j
  by_cases hj:j<n*size
  ·have h5:(cur.toList.take (n*size))[j]?=some (f j):=by rw[h4,dH hj]
   rw[List.getElem?_take,if_pos hj]at h5;rw[dH hj,List.getElem?_take,if_pos hj,Array.getElem?_toList,Array.getElem?_setIfInBounds]
   by_cases e:j=k
   ·subst e
    have hsz:j<cur.size:=by
     rcases Nat.lt_or_ge j cur.size with q|q
     ·exact q
     ·rw[Array.getElem?_toList,Array.getElem?_eq_none q]at h5;cases h5
    simp[hsz]
   ·rw[if_neg (fun q=>e q.symm)]
    simp only[if_neg e];simpa using h5
  ·rw[List.getElem?_eq_none (by rw[List.length_take];omega),List.getElem?_eq_none (by rw[bR];omega)]
theorem OwI.set{w:World}{base g cap:Nat}{l:List Int}(h:OwI w base (some ⟨g,0,none⟩) cap l)(k:Nat)(hk:k<l.length)(x:Int):OwI (w.setCell ⟨g,k,none⟩ (.int .i64 x)) base (some ⟨g,0,none⟩) cap (l.set k x):=by
 have h1:=GOwn.set h k (by omega) (.int .i64 x);unfold OwI;rw[List.length_set];refine h1.congr (fun j hj=>?_);have hjl:j<l.length:=by omega
 have e0:lf (cU (l.set k x)) j=.int .i64 (aT (l.set k x) j):=jF _ j (by rw[List.length_set];exact hjl);have e1:lf (cU l) j=.int .i64 (aT l j):=jF l j hjl;rw[e0,e1]
 by_cases e:j=k
 ·subst e
  rw[if_pos rfl];simp[aT,hjl]
 ·rw[if_neg e]
  simp[aT,List.getElem?_set_ne (fun q=>e q.symm)]
theorem OwI.vh{w:World}{base cap:Nat}{ao:Option Addr}{l:List Int}(h:OwI w base ao cap l)(hl:0<l.length):∃ g,ao=some ⟨g,0,none⟩/\base<=g/\VHas w g 2 (l.length*1) (lf (cU l)):=GOwn.vhas h hl
theorem OwI.apart{w w':World}{base cap:Nat}{ao:Option Addr}{l:List Int}(h:OwI w base ao cap l){g:Nat}(hg:w.grownBy w' (some g))(hne:dI ao≠some g):OwI w' base ao cap l:=GOwn.grown h hg (fun x e q=>hne (by rw[<-oI q]at e;cases ao<;>simp_all [dI,Value.ownBlock]))
end
section
open Go Go.RowKit
attribute [local go_sem ↓] Go.wp_at_zero Go.wp_at_succ
structure Nq where
 n:Nd
 s:NdS
def mX:List Nq->List Value
 | []=>[]
 | q :: r=>aJ q.n q.s++mX r
theorem nL:∀ l:List Nq,(mX l).length=l.length*10
 | []=>rfl
 | q :: r=>by simp[mX,nL r];omega
theorem L9:∀ a b:List Nq,mX (a++b)=mX a++mX b
 | [],b=>rfl
 | q :: a,b=>by simp[mX,L9 a b]
theorem Z4:∀ {l:List Nq} {k j:Nat} {q:Nq},l[k]?=some q->j<10->(mX l)[k*10+j]?=(aJ q.n q.s)[j]?
 | [],k,j,q,h,_=>by simp at h
 | p :: r,0,j,q,h,hj=>by
  obtain rfl:p=q:=by simpa using h
  simp only[mX,Nat.zero_mul,Nat.zero_add];rw[List.getElem?_append_left (by simpa using hj)]
 | p :: r,k+1,j,q,h,hj=>by
  have:=Z4 (l:=r) (k:=k) (j:=j) (q:=q) (by simpa using h) hj;simp only[mX];rw[List.getElem?_append_right (by simp;omega),<-this]
  congr 1
  simp;omega
theorem BZ(q:Nq)(j:Nat)(h:j<10):(lf (aJ q.n q.s) j).oneCell'=true:=by
 have:j=0\/j=1\/j=2\/j=3\/j=4\/j=5\/j=6\/j=7\/j=8\/j=9:=by omega
 rcases this with rfl|rfl|rfl|rfl|rfl|rfl|rfl|rfl|rfl|rfl<;>rfl
theorem fV{w:World}{l:List Nq}{b o k:Nat}{q:Nq}{t:TypeId}(h:LRow w t (some ⟨b,o,none⟩) (mX l))(hk:l[k]?=some q)(j:Nat)(hj:j<10):w.cell? ⟨b,o+k*10+j,none⟩=some (lf (aJ q.n q.s) j):=by
 have hlt:k<l.length:=by
  rcases Nat.lt_or_ge k l.length with z|z
  ·exact z
  ·rw[List.getElem?_eq_none z]at hk;cases hk
 obtain⟨b',o',e,_,hc⟩:=h (fun z=>by have:=nL l;rw[z]at this;simp at this;omega);cases e;have e1:=Z4 hk hj
 have e2:(aJ q.n q.s)[j]?=some (lf (aJ q.n q.s) j):=by
  have hj2:j<(aJ q.n q.s).length:=hj;simp only[lf,List.getD_eq_getElem?_getD];rw[List.getElem?_eq_getElem hj2];rfl
 rw[e2]at e1;have:=hc _ _ e1;rw[<-Nat.add_assoc]at this;exact this
theorem Tryz.infoNode:(Tryz.prog.info? 27).map (fun i=>(i.zero,i.size,i.bytes))=some (some (aX aU aP),10,144):=by kernel_rfl
theorem Tryz.elQ:ElI Tryz.prog 52 27 10 144:=⟨Tryz.underlying52,by
 obtain⟨i0,hi0,hz0,hz1,hz2⟩:=info_parts Tryz.infoNode
 exact⟨i0,_,hi0,hz0,hz1,hz2,rfl⟩,by omega,by omega⟩
def Z5(i p:Int):Nd:=⟨i,p,0,-1,[],1,0,[],[],[]⟩
def qE(p:Int):Nat->List Nq
 | 0=>[]
 | k+1=>qE p k++[⟨Z5 k p,aP⟩]
theorem fS(p:Int):∀ k,(qE p k).length=k
 | 0=>rfl
 | k+1=>by simp[qE,fS p k]
theorem M0(p:Int):∀ {k i:Nat},i<k->(qE p k)[i]?=some ⟨Z5 i p,aP⟩
 | 0,i,h=>by omega
 | k+1,i,h=>by
  simp only[qE]
  by_cases e:i=k
  ·subst e
   rw[List.getElem?_append_right (by rw[fS];omega),fS];simp
  ·rw[List.getElem?_append_left (by rw[fS];omega)]
   exact M0 p (by omega)
theorem Z6{w:World}{base:Nat}{ao:Option Addr}{cap:Nat}{l:List Nq}{q:Nq}{k:Nat}(hl:l.length=k)(ho:GOwn w base 27 10 ao (k+1) cap (fun j=>if j<k*10 then lf (mX l) j else lf (aJ q.n q.s) (j-k*10))):GOwn w base 27 10 ao (k+1) cap (lf (mX (l++[q]))):=
 GOwn.congr ho (fun j hj=>by
  have e2:mX (l++[q])=mX l++aJ q.n q.s:=by rw[L9];simp[mX]
  rw[e2,mT,nL,hl])
theorem jO{w W W':World}{row:Option Nat}(h:RB w W)(hg:W.grownBy W' row)(hx:∀ x,row=some x->w.heap.size<=x):RB w W':=pY h hg hx
structure Ch(base:Nat)(w w':World):Prop where
 os:w'.os=w.os
 tape:w'.tape=w.tape
 output:w'.output=w.output
 size:w.heap.size<=w'.heap.size
 block:∀ k,k<w.heap.size->(k<base\/¬ (aG w k 2\/aG w k 47))->w'.heap[k]?=w.heap[k]?
theorem Ch.of_rb{base:Nat}{w w':World}(h:RB w w'):Ch base w w':=⟨h.os,h.tape,h.output,h.size,fun k hk _=>h.block k hk⟩
theorem oG{w w':World}{k:Nat}{t:TypeId}(h:w'.heap[k]?=w.heap[k]?):aG w' k t↔aG w k t:=by
 unfold aG;rw[h]
theorem Ch.trans{base:Nat}{u v w:World}(h:Ch base u v)(k:Ch base v w):Ch base u w:=
 ⟨k.os.trans h.os,k.tape.trans h.tape,k.output.trans h.output,Nat.le_trans h.size k.size,fun x hx hc=>by
  have h1:=h.block x hx hc;refine (k.block x (Nat.lt_of_lt_of_le hx h.size) ?_).trans h1;rcases hc with hc|hc
  ·exact .inl hc
  ·exact .inr (by rw[oG h1,oG h1];exact hc)⟩
theorem Ch.of_gr{base g:Nat}{w w':World}(h:w.grownBy w' (some g))(hb:base<=g)(ht:aG w g 2\/aG w g 47):Ch base w w':=⟨h.os,h.tape,h.output,h.size,fun k hk hc=>h.block k hk (fun q=>by
 have:=oI q;subst this;rcases hc with hc|hc
 ·omega
 ·exact hc ht)⟩
theorem Ch.of_row{base:Nat}{row:Option Nat}{w w':World}(h:w.grownBy w' row)(hb:∀ g,row=some g->base<=g/\(aG w g 2\/aG w g 47)):Ch base w w':=⟨h.os,h.tape,h.output,h.size,fun k hk hc=>h.block k hk (fun q=>by
 have h1:=hb k q.symm;rcases hc with hc|hc
 ·omega
 ·exact hc h1.2)⟩
theorem Ch.box{base b:Nat}{w W W':World}(h:Ch base w W)(hg:W.grownBy W' (some b))(hb:w.heap.size<=b):Ch base w W':=⟨hg.os.trans h.os,hg.tape.trans h.tape,hg.output.trans h.output,Nat.le_trans h.size hg.size,fun k hk hc=>(hg.block k (Nat.lt_of_lt_of_le hk h.size) (fun q=>by have:=oI q;omega)).trans (h.block k hk hc)⟩
theorem VHas.ch{base:Nat}{w w':World}{b n:Nat}{t:TypeId}{f:Nat->Value}(h:VHas w b t n f)(hc:Ch base w w')(h1:t≠2)(h2:t≠47):VHas w' b t n f:=
 h.of_block (hc.block b h.lt (.inr (fun q=>by
  rcases q with q|q
  ·exact jK h.typed q h1 rfl
  ·exact jK h.typed q h2 rfl)))
theorem L8(w:World)(base:Nat)(n:Nd)(s:NdS)(h1:n.log=[])(h2:n.votes=[])(h3:n.next=[])(h4:n.mat=[])(hl:s.lo=none)(hlc:s.lc=0)(hv:s.vo=none)(hvc:s.vc=0)(hx:s.no=none)(hxc:s.nc=0)(hm:s.mo=none)(hmc:s.mc=0):NdO w base n s:=by
 refine⟨?_,?_,?_,?_,?_,?_,?_⟩
 ·rw[h1,hl,hlc];exact GOwn.nil _ _ _ _ _
 ·rw[h2,hv,hvc];exact GOwn.nil _ _ _ _ _
 ·rw[h3,hx,hxc];exact GOwn.nil _ _ _ _ _
 ·rw[h4,hm,hmc];exact GOwn.nil _ _ _ _ _
 ·intro b e;rw[hv]at e;cases e
 ·intro b e;rw[hv]at e;cases e
 ·intro b e;rw[hx]at e;cases e
theorem lE(w:World)(base:Nat):NdO w base aU aP:=L8 w base aU aP rfl rfl rfl rfl rfl rfl rfl rfl rfl rfl rfl rfl
theorem NdO.fol{w:World}{base:Nat}{n n':Nd}{s:NdS}(h:NdO w base n s)(hl:n'.log=n.log)(hv:n'.votes=[])(hx:n'.next=[])(hm:n'.mat=[]):NdO w base n' (rB s):=by
 refine⟨?_,?_,?_,?_,?_,?_,?_⟩
 ·rw[hl];exact h.l
 ·rw[hv];exact GOwn.nil _ _ _ _ _
 ·rw[hx];exact GOwn.nil _ _ _ _ _
 ·rw[hm];exact GOwn.nil _ _ _ _ _
 ·intro b e;cases e
 ·intro b e;cases e
 ·intro b e;cases e
theorem NdO.from{w:World}{base base':Nat}{n:Nd}{s:NdS}(h:NdO w base n s)(hb:base'<=base):NdO w base' n s:=⟨h.l.from hb,h.v.from hb,h.x.from hb,h.m.from hb,h.vx,h.vm,h.xm⟩
end
end Go.Proofs.YtbabakgjkloabaaGreatDoor
