/-
  Helpers: Sn1, Sli, Nd3.
-/
import Derived.Test.YtbabakgjkloabaaGreatDoorPack2
import Derived.Test.YtbabakgjkloabaaGreatDoorPack8
import Derived.Test.YtbabakgjkloabaaGreatDoorPack1
import Derived.Test.YtbabakgjkloabaaGreatDoorPack7
set_option linter.unusedVariables false
set_option linter.unusedSimpArgs false
namespace Go.Proofs.YtbabakgjkloabaaGreatDoor
section
open Go Go.RowKit
attribute [local go_sem ↓] Go.wp_at_zero Go.wp_at_succ
theorem l1In_rb (x lo hi:Int) (w:World):Calls Tryz.prog 40 #[.int .i64 x,.int .i64 lo,.int .i64 hi] w fun e w'=>e=.returned (.bool (inB x lo hi))/\RB w w':=(l1In_any x lo hi w).mono fun e w' h=>⟨h.1,by rw[h.2];exact RB.refl w⟩
theorem inB_srv (x p:Int):inB x 0 (p-1)=srvB p x:=by
 simp only[inB,srvB,Bool.decide_and]
 congr 1
 exact decide_eq_decide.2 (by omega)
theorem inB_dec (x lo hi:Int):inB x lo hi=decide (lo<=x/\x<=hi):=by simp only[inB,Bool.decide_and]
theorem l11Server_rb (i p:Int) (h1:1<=p) (h2:p<=5) (w:World):Calls Tryz.prog 41 #[.int .i64 i,.int .i64 p] w fun e w'=>e=.returned (.bool (srvB p i))/\RB w w':=(l11Server_any i p h1 h2 w).mono fun e w' h=>⟨by rw[h.1,inB_srv],by rw[h.2];exact RB.refl w⟩
theorem specLogOk_L (ao:Option Addr) (cap:Nat) (l:List En) (hn:l.length<=1048576) (hX:∀ k,k<l.length->(xOf l k).size<=1048576) (w:World) {t:TypeId} (hr:LRow w t ao (elc l)):Calls Tryz.prog 42 #[.slice ao l.length cap] w fun e w'=>e=.returned (.bool (logL l))/\RB w w':=specLogOk_any ao l.length cap (tOf l) (xOf l) (by omega) hX w hr.n
theorem specLast_L (ao:Option Addr) (cap:Nat) (l:List En) (hn:l.length<=1048576) (w:World) {t:TypeId} (hr:LRow w t ao (elc l)):Calls Tryz.prog 43 #[.slice ao l.length cap] w fun e w'=>e=.returned (.int .i64 (lastL l))/\RB w w':=(l10Last_any ao l.length cap (tOf l) (xOf l) (by omega) w hr.n).mono fun e w' h=>⟨h.1,by rw[h.2];exact RB.refl w⟩
def nodeR (n:Nd):Bool:=nodeB n && !((n.role==3)&&(n.term==0))
theorem nodeR_B {n:Nd} (h:nodeR n=true):nodeB n=true:=by
 simp only[nodeR,Bool.and_eq_true]at h;exact h.1
def lstV (l:List Int) (k:Nat):Int:=if k=0 then 0 else iOf l (k-1)+1
theorem votesB_end' (p least:Int) {l:List Int} {k:Nat} (h:l.length<=k):votesB p least (l.drop k)=true:=by
 rw[List.drop_eq_nil_of_le h];rfl
theorem votesB_at' (p least:Int) {l:List Int} {k:Nat} (h:k<l.length):votesB p least (l.drop k)=(decide (least<=iOf l k)&&(srvB p (iOf l k)&&votesB p (iOf l k+1) (l.drop (k+1)))):=by
 rw[List.drop_eq_getElem_cons h];have e:iOf l k=l[k]:=by simp[iOf,h]
 rw[e];rfl
theorem reach_all' {e:Int} {nx mt:List Int} {m:Nat} (h:∀ j,j<m->reachAt e nx mt j=true):(List.range m).all (reachAt e nx mt)=true:=by
 rw[List.all_eq_true];exact fun j hj=>h j (List.mem_range.1 hj)
theorem reach_no' {e:Int} {nx mt:List Int} {m k:Nat} (hk:k<m) (h:reachAt e nx mt k=false):(List.range m).all (reachAt e nx mt)=false:=by
 rw[List.all_eq_false];exact⟨k,List.mem_range.2 hk,by rw[h];simp⟩
theorem wp_seq_h' {P:Program} {Q:Exit->Act->World->Prop} {a:Act} {w:World} {x y:Code} (h:∀ K:Act->World->Prop,Hid (∀ a w,y.wp P Q a w->K a w)->x.wp P (Exit.then K Q) a w):(Code.seq x y).wp P Q a w:=wp_seq_k fun K hK=>h K hK
def nodeC (n:Nd):Bool:=decide (1<=n.peers/\n.peers<=5)&&(srvB n.peers n.id&&(decide (0<=n.term/\n.term<=100000)&&((n.vote == -1||srvB n.peers n.vote)&&((logL n.log&&decide (lastL n.log<=n.term))&&(decide (1<=n.role/\n.role<=3)&&decide (0<=n.commit/\n.commit<=n.log.length))))))
theorem nodeB_C (n:Nd):nodeB n=(nodeC n&&roleB n):=by
 by_cases h:1<=n.role/\n.role<=3
 ·simp[nodeB,nodeC,h,Bool.and_assoc]
 ·have hr:roleB n=false:=by
   simp only[roleB];rw[if_neg (by omega),if_neg (by omega),if_neg (by omega)]
  rw[hr];simp[nodeB,hr]
theorem vote_step (p v:Int) (l:List Int) (k:Nat):(!(srvB p v)||(decide ((0:Int)<(k:Int))&&decide (v<=iOf l (k-1)))) = !(decide (lstV l k<=v)&&srvB p v):=by
 rcases Nat.eq_zero_or_pos k with h|h
 ·subst h
  simp only[lstV,if_true,srvB]
  by_cases h0:0<=v<;>simp[h0]
 ·have h1:decide ((0:Int)<(k:Int))=true:=by simp;omega
  have h2:decide (lstV l k<=v) = !(decide (v<=iOf l (k-1))):=by
   rw[<-decide_not,lstV,if_neg (by omega)];exact decide_eq_decide.2 (by omega)
  rw[h1,h2];cases srvB p v<;>cases decide (v<=iOf l (k-1))<;>rfl
theorem roleB_votes {n:Nd} (h:votesB n.peers 0 n.votes=false):roleB n=false:=by
 have h0:n.votes.isEmpty=false:=by
  cases hv:n.votes with
  | nil=>rw[hv]at h;simp[votesB]at h
  | cons a b=>rfl
 simp only[roleB,h,h0,Bool.false_and]
 split<;>(try rfl)
 split<;>(try rfl)
 split<;>rfl
set_option maxRecDepth 100000 in
set_option maxHeartbeats 16000000 in
theorem specNodeOk_any (n:Nd) (s:NdS) (hz:NdZ n s) (w:World) (hM:NdM w n s):Calls Tryz.prog 11 #[ndV n s] w fun e w'=>e=.returned (.bool (nodeR n))/\RB w w':=by
 obtain⟨hzl,hzv,hzx,hzm,hlc,hvc,hxc,hmc,hzt⟩:=hz;obtain⟨lo,lc,vo,vc,no,nc,mo,mc⟩:=s;have hb:=RB.alloc w (.cells (ndL n ⟨lo,lc,vo,vc,no,nc,mo,mc⟩).toArray 27);have vA:NdB _ w.heap.size n ⟨lo,lc,vo,vc,no,nc,mo,mc⟩:=ndB_new w n ⟨lo,lc,vo,vc,no,nc,mo,mc⟩;replace hM:=hM.next hb;clear hlc hvc hxc hmc;obtain⟨c0,c1,c2,c3,c4,c5,c6,c7,c8,c9⟩:=vA.c10;simp[lf]at c0 c1 c2 c3 c4 c5 c6 c7 c8 c9;go_enter Tryz.func11,Tryz.ntmps11
 go_wp2_with fail
 clear c0 c1 c2 c3 c4 c5 c6 c7 c8 c9;generalize (w.alloc _)=W at hb vA hM ⊢;have hd:RB W W.drew:=(Below.refl _ _).drew;replace hb:=RB.trans _ _ _ hb hd;replace vA:NdB W.drew w.heap.size n ⟨lo,lc,vo,vc,no,nc,mo,mc⟩:=VHas.next vA hd;replace hM:=hM.next hd;clear hd;obtain⟨b11,qb11⟩:∃ b:Bool,b=(inB (n.peers) (1) (5)):=⟨_,rfl⟩
 obtain⟨b12,qb12⟩:∃ b:Bool,b=(!b11):=⟨_,rfl⟩
 obtain⟨c4f,hc4f⟩:∃ c:Bool,c=(true&&((b12)==false)):=⟨_,rfl⟩
 obtain⟨b18,qb18⟩:∃ b:Bool,b=(srvB (n.peers) (n.id)):=⟨_,rfl⟩
 obtain⟨b19,qb19⟩:∃ b:Bool,b=(!b18):=⟨_,rfl⟩
 obtain⟨b20,qb20⟩:∃ b:Bool,b=((b12||b19)):=⟨_,rfl⟩
 obtain⟨c12f,hc12f⟩:∃ c:Bool,c=(true&&((b20)==false)):=⟨_,rfl⟩
 obtain⟨b24,qb24⟩:∃ b:Bool,b=(inB (n.term) (0) (100000)):=⟨_,rfl⟩
 obtain⟨b25,qb25⟩:∃ b:Bool,b=(!b24):=⟨_,rfl⟩
 obtain⟨b26,qb26⟩:∃ b:Bool,b=((b20||b25)):=⟨_,rfl⟩
 obtain⟨c18f,hc18f⟩:∃ c:Bool,c=(true&&((b26)==false)):=⟨_,rfl⟩
 obtain⟨b30,qb30⟩:∃ b:Bool,b=((n.vote != (-1))):=⟨_,rfl⟩
 obtain⟨c22t,hc22t⟩:∃ c:Bool,c=(c18f&&((b30)==true)):=⟨_,rfl⟩
 obtain⟨b36,qb36⟩:∃ b:Bool,b=(srvB (n.peers) (n.vote)):=⟨_,rfl⟩
 obtain⟨b37,qb37⟩:∃ b:Bool,b=(!b36):=⟨_,rfl⟩
 obtain⟨b38,qb38⟩:∃ b:Bool,b=((b30&&b37)):=⟨_,rfl⟩
 obtain⟨b39,qb39⟩:∃ b:Bool,b=((b26||b38)):=⟨_,rfl⟩
 obtain⟨c31f,hc31f⟩:∃ c:Bool,c=(true&&((b39)==false)):=⟨_,rfl⟩
 obtain⟨b43,qb43⟩:∃ b:Bool,b=(logL n.log):=⟨_,rfl⟩
 obtain⟨b44,qb44⟩:∃ b:Bool,b=(!b43):=⟨_,rfl⟩
 obtain⟨b45,qb45⟩:∃ b:Bool,b=((b39||b44)):=⟨_,rfl⟩
 obtain⟨c37f,hc37f⟩:∃ c:Bool,c=(true&&((b45)==false)):=⟨_,rfl⟩
 obtain⟨b52,qb52⟩:∃ b:Bool,b=(decide (n.term<(lastL n.log))):=⟨_,rfl⟩
 obtain⟨b53,qb53⟩:∃ b:Bool,b=((b45||b52)):=⟨_,rfl⟩
 obtain⟨c45f,hc45f⟩:∃ c:Bool,c=(true&&((b53)==false)):=⟨_,rfl⟩
 obtain⟨b57,qb57⟩:∃ b:Bool,b=(inB (n.role) (1) (3)):=⟨_,rfl⟩
 obtain⟨b58,qb58⟩:∃ b:Bool,b=(!b57):=⟨_,rfl⟩
 obtain⟨b59,qb59⟩:∃ b:Bool,b=((b53||b58)):=⟨_,rfl⟩
 obtain⟨c51f,hc51f⟩:∃ c:Bool,c=(true&&((b59)==false)):=⟨_,rfl⟩
 obtain⟨b64,qb64⟩:∃ b:Bool,b=(inB (n.commit) (0) ((n.log.length:Int))):=⟨_,rfl⟩
 obtain⟨b65,qb65⟩:∃ b:Bool,b=(!b64):=⟨_,rfl⟩
 obtain⟨b66,qb66⟩:∃ b:Bool,b=((b59||b65)):=⟨_,rfl⟩
 refine region_all (by kernel_rfl) (by kernel_rfl) RB RB.refl RB.trans
  [isV (.pointer (some ⟨w.heap.size,1,none⟩)),isV (.int .i64 n.peers),isV (.bool b11),isV (.bool b12),isV (.bool b12),isV (gv c4f (.pointer (some ⟨w.heap.size,0,none⟩))),isV (gv c4f (.int .i64 n.id)),isV (gv c4f (.pointer (some ⟨w.heap.size,1,none⟩))),isV (gv c4f (.int .i64 n.peers)),isV (gv c4f (.bool b18)),isV (gv c4f (.bool b19)),isV (.bool b20),isV (.bool b20),isV (gv c12f (.pointer (some ⟨w.heap.size,2,none⟩))),isV (gv c12f (.int .i64 n.term)),isV (gv c12f (.bool b24)),isV (gv c12f (.bool b25)),isV (.bool b26),isV (.bool b26),isV (gv c18f (.pointer (some ⟨w.heap.size,3,none⟩))),isV (gv c18f (.int .i64 n.vote)),isV (gv c18f (.bool b30)),isV (gv c18f (.bool b30)),isV (gv c22t (.pointer (some ⟨w.heap.size,3,none⟩))),isV (gv c22t (.int .i64 n.vote)),isV (gv c22t (.pointer (some ⟨w.heap.size,1,none⟩))),isV (gv c22t (.int .i64 n.peers)),isV (gv c22t (.bool b36)),isV (gv c22t (.bool b37)),isV (gv c18f (.bool b38)),isV (.bool b39),isV (.bool b39),isV (gv c31f (.pointer (some ⟨w.heap.size,4,none⟩))),isV (gv c31f (.slice lo n.log.length lc)),isV (gv c31f (.bool b43)),isV (gv c31f (.bool b44)),isV (.bool b45),isV (.bool b45),isV (gv c37f (.pointer (some ⟨w.heap.size,4,none⟩))),isV (gv c37f (.slice lo n.log.length lc)),isV (gv c37f (.int .i64 (lastL n.log))),isV (gv c37f (.pointer (some ⟨w.heap.size,2,none⟩))),isV (gv c37f (.int .i64 n.term)),isV (gv c37f (.bool b52)),isV (.bool b53),isV (.bool b53),isV (gv c45f (.pointer (some ⟨w.heap.size,5,none⟩))),isV (gv c45f (.int .i64 n.role)),isV (gv c45f (.bool b57)),isV (gv c45f (.bool b58)),isV (.bool b59),isV (.bool b59),isV (gv c51f (.pointer (some ⟨w.heap.size,6,none⟩))),isV (gv c51f (.int .i64 n.commit)),isV (gv c51f (.int .i64 (n.log.length:Int))),isV (gv c51f (.bool b64)),isV (gv c51f (.bool b65)),isV (.bool b66)]
  ⟨isV.rb,isV.rb,isV.rb,isV.rb,isV.rb,isV.rb,isV.rb,isV.rb,isV.rb,isV.rb,isV.rb,isV.rb,isV.rb,isV.rb,isV.rb,isV.rb,isV.rb,isV.rb,isV.rb,isV.rb,isV.rb,isV.rb,isV.rb,isV.rb,isV.rb,isV.rb,isV.rb,isV.rb,isV.rb,isV.rb,isV.rb,isV.rb,isV.rb,isV.rb,isV.rb,isV.rb,isV.rb,isV.rb,isV.rb,isV.rb,isV.rb,isV.rb,isV.rb,isV.rb,isV.rb,isV.rb,isV.rb,isV.rb,isV.rb,isV.rb,isV.rb,isV.rb,isV.rb,isV.rb,isV.rb,isV.rb,isV.rb,isV.rb,trivial⟩ rfl ?_ ?_
 ·refine⟨?_,?_,?_,?_,?_,?_,?_,?_,?_,?_,?_,?_,?_,?_,?_,?_,?_,?_,?_,?_,?_,?_,?_,?_,?_,?_,?_,?_,?_,?_,?_,?_,?_,?_,?_,?_,?_,?_,?_,?_,?_,?_,?_,?_,?_,?_,?_,?_,?_,?_,?_,?_,?_,?_,?_,?_,?_,?_,trivial⟩
  ·exact oq rfl fun ev w' v hR E pr=>by
    have e1:=E.was 1 _;simp[go_sem,e1]
  ·exact oq rfl fun ev w' v hR E pr=>by
    have e1:=E.eq pr 0 9;have cc:=(vA.next hR).cell (j:=1) (by omega);simp[lf]at cc;simp[go_sem,cc,e1]
  ·exact OpOk.ret _ (fun _=>rfl) fun ev w' v hR E pr=>by
    have e1:=E.eq pr 1 10;refine⟨40,#[.int .i64 n.peers,.int .i64 1,.int .i64 5],by simp[go_sem,gv,e1,E.con,E.fn],?_⟩;rw[qb11];exact l1In_rb (n.peers) (1) (5) _
  ·exact oq rfl fun ev w' v hR E pr=>by
    have e1:=E.eq pr 2 11;simp[go_sem,qb12,e1]
  ·exact oq rfl fun ev w' v hR E pr=>by
    have e1:=E.eq pr 3 12;simp[go_sem,e1]
  ·exact OpOk.gd RB.refl 4 13 false true (b12) (fun _ _ h=>h) c4f hc4f _ (fun _=>rfl) fun ev w' v hR E pr hC=>by
    have e1:=E.was 1 _;simp[go_sem,gv,hC,hc4f,e1]
  ·exact OpOk.gd RB.refl 4 13 false true (b12) (fun _ _ h=>h) c4f hc4f _ (fun _=>rfl) fun ev w' v hR E pr hC=>by
    have e1:=E.eq pr 5 14;have cc:=(vA.next hR).cell (j:=0) (by omega);simp[lf]at cc;simp[go_sem,gv,hC,hc4f,cc,e1]
  ·exact OpOk.gd RB.refl 4 13 false true (b12) (fun _ _ h=>h) c4f hc4f _ (fun _=>rfl) fun ev w' v hR E pr hC=>by
    have e1:=E.was 1 _;simp[go_sem,gv,hC,hc4f,e1]
  ·exact OpOk.gd RB.refl 4 13 false true (b12) (fun _ _ h=>h) c4f hc4f _ (fun _=>rfl) fun ev w' v hR E pr hC=>by
    have e1:=E.eq pr 7 16;have cc:=(vA.next hR).cell (j:=1) (by omega);simp[lf]at cc;simp[go_sem,gv,hC,hc4f,cc,e1]
  ·exact OpOk.gdCall 4 13 false true (b12) (fun _ _ h=>h) c4f hc4f _ (fun _=>rfl) fun ev w' v hR E pr hC=>by
    have e1:=E.eq pr 6 15;have e2:=E.eq pr 8 17;rw[hC]at e1;rw[hC]at e2;refine⟨41,#[.int .i64 n.id,.int .i64 n.peers],by simp[go_sem,gv,e1,e2,E.fn],?_⟩;rw[qb18];exact l11Server_rb (n.id) (n.peers) (by simp[hc4f,qb11,qb12,inB]at hC;omega) (by simp[hc4f,qb11,qb12,inB]at hC;omega) _
  ·exact OpOk.gd RB.refl 4 13 false true (b12) (fun _ _ h=>h) c4f hc4f _ (fun _=>rfl) fun ev w' v hR E pr hC=>by
    have e1:=E.eq pr 9 18;simp[go_sem,gv,hC,hc4f,qb19,e1]
  ·exact oq rfl fun ev w' v hR E pr=>by
    have e1:=E.eq pr 4 13;have e2:=E.eq pr 10 19;rcases Bool.eq_false_or_eq_true (b12) with hs|hs<;>simp[go_sem,E.con,qb20,gv,hc4f,e1,e2,hs]
  ·exact oq rfl fun ev w' v hR E pr=>by
    have e1:=E.eq pr 11 20;simp[go_sem,e1]
  ·exact OpOk.gd RB.refl 12 21 false true (b20) (fun _ _ h=>h) c12f hc12f _ (fun _=>rfl) fun ev w' v hR E pr hC=>by
    have e1:=E.was 1 _;simp[go_sem,gv,hC,hc12f,e1]
  ·exact OpOk.gd RB.refl 12 21 false true (b20) (fun _ _ h=>h) c12f hc12f _ (fun _=>rfl) fun ev w' v hR E pr hC=>by
    have e1:=E.eq pr 13 22;have cc:=(vA.next hR).cell (j:=2) (by omega);simp[lf]at cc;simp[go_sem,gv,hC,hc12f,cc,e1]
  ·exact OpOk.gdCall 12 21 false true (b20) (fun _ _ h=>h) c12f hc12f _ (fun _=>rfl) fun ev w' v hR E pr hC=>by
    have e1:=E.eq pr 14 23;rw[hC]at e1;refine⟨40,#[.int .i64 n.term,.int .i64 0,.int .i64 100000],by simp[go_sem,gv,e1,E.con,E.fn],?_⟩;rw[qb24];exact l1In_rb (n.term) (0) (100000) _
  ·exact OpOk.gd RB.refl 12 21 false true (b20) (fun _ _ h=>h) c12f hc12f _ (fun _=>rfl) fun ev w' v hR E pr hC=>by
    have e1:=E.eq pr 15 24;simp[go_sem,gv,hC,hc12f,qb25,e1]
  ·exact oq rfl fun ev w' v hR E pr=>by
    have e1:=E.eq pr 12 21;have e2:=E.eq pr 16 25;rcases Bool.eq_false_or_eq_true (b20) with hs|hs<;>simp[go_sem,E.con,qb26,gv,hc12f,e1,e2,hs]
  ·exact oq rfl fun ev w' v hR E pr=>by
    have e1:=E.eq pr 17 26;simp[go_sem,e1]
  ·exact OpOk.gd RB.refl 18 27 false true (b26) (fun _ _ h=>h) c18f hc18f _ (fun _=>rfl) fun ev w' v hR E pr hC=>by
    have e1:=E.was 1 _;simp[go_sem,gv,hC,hc18f,e1]
  ·exact OpOk.gd RB.refl 18 27 false true (b26) (fun _ _ h=>h) c18f hc18f _ (fun _=>rfl) fun ev w' v hR E pr hC=>by
    have e1:=E.eq pr 19 28;have cc:=(vA.next hR).cell (j:=3) (by omega);simp[lf]at cc;simp[go_sem,gv,hC,hc18f,cc,e1]
  ·exact OpOk.gd RB.refl 18 27 false true (b26) (fun _ _ h=>h) c18f hc18f _ (fun _=>rfl) fun ev w' v hR E pr hC=>by
    have e1:=E.eq pr 20 29;simp[go_sem,gv,hC,hc18f,E.con,qb30,e1]
  ·exact OpOk.gd RB.refl 18 27 false true (b26) (fun _ _ h=>h) c18f hc18f _ (fun _=>rfl) fun ev w' v hR E pr hC=>by
    have e1:=E.eq pr 21 30;simp[go_sem,gv,hC,hc18f,e1]
  ·exact OpOk.gd RB.refl 22 31 true c18f (b30) (fun _ _ h=>h) c22t hc22t _ (fun _=>rfl) fun ev w' v hR E pr hC=>by
    have e1:=E.was 1 _;simp[go_sem,gv,hC,hc22t,e1]
  ·exact OpOk.gd RB.refl 22 31 true c18f (b30) (fun _ _ h=>h) c22t hc22t _ (fun _=>rfl) fun ev w' v hR E pr hC=>by
    have e1:=E.eq pr 23 32;have cc:=(vA.next hR).cell (j:=3) (by omega);simp[lf]at cc;simp[go_sem,gv,hC,hc22t,cc,e1]
  ·exact OpOk.gd RB.refl 22 31 true c18f (b30) (fun _ _ h=>h) c22t hc22t _ (fun _=>rfl) fun ev w' v hR E pr hC=>by
    have e1:=E.was 1 _;simp[go_sem,gv,hC,hc22t,e1]
  ·exact OpOk.gd RB.refl 22 31 true c18f (b30) (fun _ _ h=>h) c22t hc22t _ (fun _=>rfl) fun ev w' v hR E pr hC=>by
    have e1:=E.eq pr 25 34;have cc:=(vA.next hR).cell (j:=1) (by omega);simp[lf]at cc;simp[go_sem,gv,hC,hc22t,cc,e1]
  ·exact OpOk.gdCall 22 31 true c18f (b30) (fun _ _ h=>h) c22t hc22t _ (fun _=>rfl) fun ev w' v hR E pr hC=>by
    have e1:=E.eq pr 24 33;have e2:=E.eq pr 26 35;rw[hC]at e1;rw[hC]at e2;refine⟨41,#[.int .i64 n.vote,.int .i64 n.peers],by simp[go_sem,gv,e1,e2,E.fn],?_⟩;rw[qb36];exact l11Server_rb (n.vote) (n.peers) (by simp[hc4f,hc12f,hc18f,hc22t,qb11,qb12,qb18,qb19,qb20,qb24,qb25,qb26,qb30,inB]at hC;omega) (by simp[hc4f,hc12f,hc18f,hc22t,qb11,qb12,qb18,qb19,qb20,qb24,qb25,qb26,qb30,inB]at hC;omega) _
  ·exact OpOk.gd RB.refl 22 31 true c18f (b30) (fun _ _ h=>h) c22t hc22t _ (fun _=>rfl) fun ev w' v hR E pr hC=>by
    have e1:=E.eq pr 27 36;simp[go_sem,gv,hC,hc22t,qb37,e1]
  ·exact OpOk.gd RB.refl 18 27 false true (b26) (fun _ _ h=>h) c18f hc18f _ (fun _=>rfl) fun ev w' v hR E pr hC=>by
    have e1:=E.eq pr 22 31;have e2:=E.eq pr 28 37;rcases Bool.eq_false_or_eq_true (b30) with hs|hs<;>simp[go_sem,gv,hC,hc18f,E.con,qb38,gv,hc22t,e1,e2,hs]
  ·exact oq rfl fun ev w' v hR E pr=>by
    have e1:=E.eq pr 18 27;have e2:=E.eq pr 29 38;rcases Bool.eq_false_or_eq_true (b26) with hs|hs<;>simp[go_sem,E.con,qb39,gv,hc18f,e1,e2,hs]
  ·exact oq rfl fun ev w' v hR E pr=>by
    have e1:=E.eq pr 30 39;simp[go_sem,e1]
  ·exact OpOk.gd RB.refl 31 40 false true (b39) (fun _ _ h=>h) c31f hc31f _ (fun _=>rfl) fun ev w' v hR E pr hC=>by
    have e1:=E.was 1 _;simp[go_sem,gv,hC,hc31f,e1]
  ·exact OpOk.gd RB.refl 31 40 false true (b39) (fun _ _ h=>h) c31f hc31f _ (fun _=>rfl) fun ev w' v hR E pr hC=>by
    have e1:=E.eq pr 32 41;have cc:=(vA.next hR).cell (j:=4) (by omega);simp[lf]at cc;simp[go_sem,gv,hC,hc31f,cc,e1]
  ·exact OpOk.gdCall 31 40 false true (b39) (fun _ _ h=>h) c31f hc31f _ (fun _=>rfl) fun ev w' v hR E pr hC=>by
    have e1:=E.eq pr 33 42;rw[hC]at e1;refine⟨42,#[.slice lo n.log.length lc],by simp[go_sem,gv,e1,E.fn],?_⟩;rw[qb43];exact specLogOk_L lo lc n.log hzl hzt _ (hM.next hR).l
  ·exact OpOk.gd RB.refl 31 40 false true (b39) (fun _ _ h=>h) c31f hc31f _ (fun _=>rfl) fun ev w' v hR E pr hC=>by
    have e1:=E.eq pr 34 43;simp[go_sem,gv,hC,hc31f,qb44,e1]
  ·exact oq rfl fun ev w' v hR E pr=>by
    have e1:=E.eq pr 31 40;have e2:=E.eq pr 35 44;rcases Bool.eq_false_or_eq_true (b39) with hs|hs<;>simp[go_sem,E.con,qb45,gv,hc31f,e1,e2,hs]
  ·exact oq rfl fun ev w' v hR E pr=>by
    have e1:=E.eq pr 36 45;simp[go_sem,e1]
  ·exact OpOk.gd RB.refl 37 46 false true (b45) (fun _ _ h=>h) c37f hc37f _ (fun _=>rfl) fun ev w' v hR E pr hC=>by
    have e1:=E.was 1 _;simp[go_sem,gv,hC,hc37f,e1]
  ·exact OpOk.gd RB.refl 37 46 false true (b45) (fun _ _ h=>h) c37f hc37f _ (fun _=>rfl) fun ev w' v hR E pr hC=>by
    have e1:=E.eq pr 38 47;have cc:=(vA.next hR).cell (j:=4) (by omega);simp[lf]at cc;simp[go_sem,gv,hC,hc37f,cc,e1]
  ·exact OpOk.gdCall 37 46 false true (b45) (fun _ _ h=>h) c37f hc37f _ (fun _=>rfl) fun ev w' v hR E pr hC=>by
    have e1:=E.eq pr 39 48;rw[hC]at e1;refine⟨43,#[.slice lo n.log.length lc],by simp[go_sem,gv,e1,E.fn],?_⟩;exact specLast_L lo lc n.log hzl _ (hM.next hR).l
  ·exact OpOk.gd RB.refl 37 46 false true (b45) (fun _ _ h=>h) c37f hc37f _ (fun _=>rfl) fun ev w' v hR E pr hC=>by
    have e1:=E.was 1 _;simp[go_sem,gv,hC,hc37f,e1]
  ·exact OpOk.gd RB.refl 37 46 false true (b45) (fun _ _ h=>h) c37f hc37f _ (fun _=>rfl) fun ev w' v hR E pr hC=>by
    have e1:=E.eq pr 41 50;have cc:=(vA.next hR).cell (j:=2) (by omega);simp[lf]at cc;simp[go_sem,gv,hC,hc37f,cc,e1]
  ·exact OpOk.gd RB.refl 37 46 false true (b45) (fun _ _ h=>h) c37f hc37f _ (fun _=>rfl) fun ev w' v hR E pr hC=>by
    have e1:=E.eq pr 40 49;have e2:=E.eq pr 42 51;simp[go_sem,gv,hC,hc37f,qb52,e1,e2]
  ·exact oq rfl fun ev w' v hR E pr=>by
    have e1:=E.eq pr 37 46;have e2:=E.eq pr 43 52;rcases Bool.eq_false_or_eq_true (b45) with hs|hs<;>simp[go_sem,E.con,qb53,gv,hc37f,e1,e2,hs]
  ·exact oq rfl fun ev w' v hR E pr=>by
    have e1:=E.eq pr 44 53;simp[go_sem,e1]
  ·exact OpOk.gd RB.refl 45 54 false true (b53) (fun _ _ h=>h) c45f hc45f _ (fun _=>rfl) fun ev w' v hR E pr hC=>by
    have e1:=E.was 1 _;simp[go_sem,gv,hC,hc45f,e1]
  ·exact OpOk.gd RB.refl 45 54 false true (b53) (fun _ _ h=>h) c45f hc45f _ (fun _=>rfl) fun ev w' v hR E pr hC=>by
    have e1:=E.eq pr 46 55;have cc:=(vA.next hR).cell (j:=5) (by omega);simp[lf]at cc;simp[go_sem,gv,hC,hc45f,cc,e1]
  ·exact OpOk.gdCall 45 54 false true (b53) (fun _ _ h=>h) c45f hc45f _ (fun _=>rfl) fun ev w' v hR E pr hC=>by
    have e1:=E.eq pr 47 56;rw[hC]at e1;refine⟨40,#[.int .i64 n.role,.int .i64 1,.int .i64 3],by simp[go_sem,gv,e1,E.con,E.fn],?_⟩;rw[qb57];exact l1In_rb (n.role) (1) (3) _
  ·exact OpOk.gd RB.refl 45 54 false true (b53) (fun _ _ h=>h) c45f hc45f _ (fun _=>rfl) fun ev w' v hR E pr hC=>by
    have e1:=E.eq pr 48 57;simp[go_sem,gv,hC,hc45f,qb58,e1]
  ·exact oq rfl fun ev w' v hR E pr=>by
    have e1:=E.eq pr 45 54;have e2:=E.eq pr 49 58;rcases Bool.eq_false_or_eq_true (b53) with hs|hs<;>simp[go_sem,E.con,qb59,gv,hc45f,e1,e2,hs]
  ·exact oq rfl fun ev w' v hR E pr=>by
    have e1:=E.eq pr 50 59;simp[go_sem,e1]
  ·exact OpOk.gd RB.refl 51 60 false true (b59) (fun _ _ h=>h) c51f hc51f _ (fun _=>rfl) fun ev w' v hR E pr hC=>by
    have e1:=E.was 1 _;simp[go_sem,gv,hC,hc51f,e1]
  ·exact OpOk.gd RB.refl 51 60 false true (b59) (fun _ _ h=>h) c51f hc51f _ (fun _=>rfl) fun ev w' v hR E pr hC=>by
    have e1:=E.eq pr 52 61;have cc:=(vA.next hR).cell (j:=6) (by omega);simp[lf]at cc;simp[go_sem,gv,hC,hc51f,cc,e1]
  ·exact OpOk.gd RB.refl 51 60 false true (b59) (fun _ _ h=>h) c51f hc51f _ (fun _=>rfl) fun ev w' v hR E pr hC=>by
    have e1:=E.was 3 _;simp[go_sem,gv,hC,hc51f,e1]
  ·exact OpOk.gdCall 51 60 false true (b59) (fun _ _ h=>h) c51f hc51f _ (fun _=>rfl) fun ev w' v hR E pr hC=>by
    have e1:=E.eq pr 53 62;have e2:=E.eq pr 54 63;rw[hC]at e1;rw[hC]at e2;refine⟨40,#[.int .i64 n.commit,.int .i64 0,.int .i64 (n.log.length:Int)],by simp[go_sem,gv,e1,e2,E.con,E.fn],?_⟩;rw[qb64];exact l1In_rb (n.commit) (0) ((n.log.length:Int)) _
  ·exact OpOk.gd RB.refl 51 60 false true (b59) (fun _ _ h=>h) c51f hc51f _ (fun _=>rfl) fun ev w' v hR E pr hC=>by
    have e1:=E.eq pr 55 64;simp[go_sem,gv,hC,hc51f,qb65,e1]
  ·exact oq rfl fun ev w' v hR E pr=>by
    have e1:=E.eq pr 51 60;have e2:=E.eq pr 56 65;rcases Bool.eq_false_or_eq_true (b59) with hs|hs<;>simp[go_sem,E.con,qb66,gv,hc51f,e1,e2,hs]
 ·intro v w' hR hp
  obtain⟨_,_,_,_,_,_,_,_,_,_,_,_,_,_,_,_,_,_,_,_,_,_,_,_,_,_,_,_,_,_,_,_,_,_,_,_,_,_,_,_,_,_,_,_,_,_,_,_,_,_,_,_,_,_,_,_,_,p57,_⟩:=hp;replace p57:v 57=.bool b66:=p57;simp only[putL,Nat.zero_add,Nat.reduceAdd,p57,Act.put,List.setIfInBounds_toArray,List.set_cons_zero,List.set_cons_succ];have hbW:=RB.trans _ _ _ hb hR;have vW:NdB w' w.heap.size n ⟨lo,lc,vo,vc,no,nc,mo,mc⟩:=VHas.next vA hR;have hMW:=hM.next hR
  have eC:b66 = !(nodeC n):=by
   simp only[qb11,qb12,qb18,qb19,qb20,qb24,qb25,qb26,qb30,qb36,qb37,qb38,qb39,qb43,qb44,qb45,qb52,qb53,qb57,qb58,qb59,qb64,qb65,qb66,nodeC,inB_dec]
   have e1:decide (n.term<lastL n.log) = !(decide (lastL n.log<=n.term)):=by
    rw[<-decide_not];exact decide_eq_decide.2 (by omega)
   rw[e1];simp only[bne,Bool.not_and,Bool.not_or,Bool.not_not,Bool.or_assoc]
  rw[eC];clear eC hb vA hM hR qb11 qb12 qb18 qb19 qb20 qb24 qb25 qb26 qb30 qb36 qb37 qb38 qb39 qb43 qb44 qb45 qb52 qb53 qb57 qb58 qb59 qb64 qb65 qb66;rcases Bool.eq_false_or_eq_true (nodeC n) with hC|hC
  rotate_left
  ·rw[hC]
   have hr:nodeR n=false:=by simp[nodeR,nodeB_C,hC]
   go_wp2;go_ret;exact⟨by rw[hr];rfl,hbW⟩
  rw[hC,show (!true)=false from rfl]
  have hpe:1<=n.peers/\n.peers<=5:=by
   simp only[nodeC,Bool.and_eq_true]at hC;exact of_decide_eq_true hC.1
  have hB:Hid (nodeR n=(roleB n && !((n.role==3)&&(n.term==0)))):=by show _ = _;simp only[nodeR,nodeB_C,hC,Bool.true_and]
  have hRo:1<=n.role/\n.role<=3:=by
   simp only[nodeC,Bool.and_eq_true]at hC;exact of_decide_eq_true hC.2.2.2.2.2.1
  clear hC
  go_wp2_with fail
  go_loopw [4] (fun x4 wr=>∃ k:Nat,k<=n.votes.length/\x4=.int .i64 (k:Int)/\votesB n.peers 0 n.votes=votesB n.peers (lstV n.votes k) (n.votes.drop k)/\RB w' wr) (fun x _=>n.votes.length-(intOf x).toNat)
  case atStart=>exact⟨0,Nat.zero_le _,rfl,rfl,RB.refl _⟩
  case round=>
   obtain⟨k,hk,rfl,hq,hRW⟩:=hrel;have vR:NdB wr w.heap.size n ⟨lo,lc,vo,vc,no,nc,mo,mc⟩:=VHas.next vW hRW;have hMR:=hMW.next hRW;have hbR:=RB.trans _ _ _ hbW hRW;clear vW hMW hbW;obtain⟨c0,c1,c2,c3,c4,c5,c6,c7,c8,c9⟩:=cN vR
   by_cases hlt:k<n.votes.length
   ·have hlt2:(k:Int)<(n.votes.length:Int):=by omega
    go_wp2_with fail
    clear c0 c1 c2 c3 c4 c5 c6 c7 c8 c9;have hd:RB wr wr.drew:=(Below.refl _ _).drew;replace hbR:=RB.trans _ _ _ hbR hd;replace hRW:=RB.trans _ _ _ hRW hd;replace vR:NdB wr.drew w.heap.size n ⟨lo,lc,vo,vc,no,nc,mo,mc⟩:=VHas.next vR hd;replace hMR:=hMR.next hd;clear hd;obtain⟨b,o,e,_,hcl⟩:=hMR.v (fun h=>by have:=ilc_len n.votes;rw[h]at this;simp at this;omega);simp only at e;subst e;have HV:Hid (∀ j,j<n.votes.length->wr.drew.cell? ⟨b,o+j,none⟩=some (.int .i64 (iOf n.votes j))):=fun j hj=>hcl _ _ (ilc_at hj)
    have hk0:(0:Int)<=(k:Int):=by omega
    have htn:(k:Int).toNat=k:=by omega
    clear hcl;obtain⟨b81,qb81⟩:∃ b:Bool,b=(srvB (n.peers) ((iOf n.votes k))):=⟨_,rfl⟩
    obtain⟨b82,qb82⟩:∃ b:Bool,b=(!b81):=⟨_,rfl⟩
    obtain⟨c9f,hc9f⟩:∃ c:Bool,c=(true&&((b82)==false)):=⟨_,rfl⟩
    obtain⟨b85,qb85⟩:∃ b:Bool,b=(decide (0<(k:Int))):=⟨_,rfl⟩
    obtain⟨c12t,hc12t⟩:∃ c:Bool,c=(c9f&&((b85)==true)):=⟨_,rfl⟩
    have hw95:IntKind.i64.wrap ((k:Int)-1)=((k:Int)-1):=by rw[IntKind.wrap_i64];omega
    obtain⟨b98,qb98⟩:∃ b:Bool,b=(decide ((iOf n.votes k)<=(iOf n.votes (k-1)))):=⟨_,rfl⟩
    obtain⟨b99,qb99⟩:∃ b:Bool,b=((b85&&b98)):=⟨_,rfl⟩
    obtain⟨b100,qb100⟩:∃ b:Bool,b=((b82||b99)):=⟨_,rfl⟩
    refine region_all (by kernel_rfl) (by kernel_rfl) RB RB.refl RB.trans
     [isV (.pointer (some ⟨w.heap.size,7,none⟩)),isV (.slice (some ⟨b,o,none⟩) n.votes.length vc),isV (.int .i64 (k:Int)),isV (.pointer (some ⟨b,o+k,none⟩)),isV (.int .i64 (iOf n.votes k)),isV (.pointer (some ⟨w.heap.size,1,none⟩)),isV (.int .i64 n.peers),isV (.bool b81),isV (.bool b82),isV (.bool b82),isV (gv c9f (.int .i64 (k:Int))),isV (gv c9f (.bool b85)),isV (gv c9f (.bool b85)),isV (gv c12t (.pointer (some ⟨w.heap.size,7,none⟩))),isV (gv c12t (.slice (some ⟨b,o,none⟩) n.votes.length vc)),isV (gv c12t (.int .i64 (k:Int))),isV (gv c12t (.pointer (some ⟨b,o+k,none⟩))),isV (gv c12t (.int .i64 (iOf n.votes k))),isV (gv c12t (.pointer (some ⟨w.heap.size,7,none⟩))),isV (gv c12t (.slice (some ⟨b,o,none⟩) n.votes.length vc)),isV (gv c12t (.int .i64 (k:Int))),isV (gv c12t (.int .i64 ((k:Int)-1))),isV (gv c12t (.pointer (some ⟨b,o+(k-1),none⟩))),isV (gv c12t (.int .i64 (iOf n.votes (k-1)))),isV (gv c12t (.bool b98)),isV (gv c9f (.bool b99)),isV (.bool b100)]
     ⟨isV.rb,isV.rb,isV.rb,isV.rb,isV.rb,isV.rb,isV.rb,isV.rb,isV.rb,isV.rb,isV.rb,isV.rb,isV.rb,isV.rb,isV.rb,isV.rb,isV.rb,isV.rb,isV.rb,isV.rb,isV.rb,isV.rb,isV.rb,isV.rb,isV.rb,isV.rb,isV.rb,trivial⟩ rfl ?_ ?_
    ·refine⟨?_,?_,?_,?_,?_,?_,?_,?_,?_,?_,?_,?_,?_,?_,?_,?_,?_,?_,?_,?_,?_,?_,?_,?_,?_,?_,?_,trivial⟩
     ·exact oq rfl fun ev w9 v hR E pr=>by
       have e1:=E.was 1 _;simp[go_sem,e1]
     ·exact oq rfl fun ev w9 v hR E pr=>by
       have e1:=E.eq pr 0 74;have cc:=(vR.next hR).cell (j:=7) (by omega);simp[lf]at cc;simp[go_sem,cc,e1]
     ·exact oq rfl fun ev w9 v hR E pr=>by
       have e1:=E.was 4 _;simp[go_sem,e1]
     ·exact oq rfl fun ev w9 v hR E pr=>by
       have e1:=E.eq pr 1 75;have e2:=E.eq pr 2 76;simp[go_sem,hlt2,hk0,htn,e1,e2]
     ·exact oq rfl fun ev w9 v hR E pr=>by
       have e1:=E.eq pr 3 77;have cc:=keep_cell hR nl (HV.out k hlt);simp[go_sem,cc,e1]
     ·exact oq rfl fun ev w9 v hR E pr=>by
       have e1:=E.was 1 _;simp[go_sem,e1]
     ·exact oq rfl fun ev w9 v hR E pr=>by
       have e1:=E.eq pr 5 79;have cc:=(vR.next hR).cell (j:=1) (by omega);simp[lf]at cc;simp[go_sem,cc,e1]
     ·exact OpOk.ret _ (fun _=>rfl) fun ev w9 v hR E pr=>by
       have e1:=E.eq pr 4 78;have e2:=E.eq pr 6 80;refine⟨41,#[.int .i64 (iOf n.votes k),.int .i64 n.peers],by simp[go_sem,gv,e1,e2,E.fn],?_⟩;rw[qb81];exact l11Server_rb ((iOf n.votes k)) (n.peers) hpe.1 hpe.2 _
     ·exact oq rfl fun ev w9 v hR E pr=>by
       have e1:=E.eq pr 7 81;simp[go_sem,qb82,e1]
     ·exact oq rfl fun ev w9 v hR E pr=>by
       have e1:=E.eq pr 8 82;simp[go_sem,e1]
     ·exact OpOk.gd RB.refl 9 83 false true (b82) (fun _ _ h=>h) c9f hc9f _ (fun _=>rfl) fun ev w9 v hR E pr hC=>by
       have e1:=E.was 4 _;simp[go_sem,gv,hC,hc9f,e1]
     ·exact OpOk.gd RB.refl 9 83 false true (b82) (fun _ _ h=>h) c9f hc9f _ (fun _=>rfl) fun ev w9 v hR E pr hC=>by
       have e1:=E.eq pr 10 84;simp[go_sem,gv,hC,hc9f,E.con,qb85,e1]
     ·exact OpOk.gd RB.refl 9 83 false true (b82) (fun _ _ h=>h) c9f hc9f _ (fun _=>rfl) fun ev w9 v hR E pr hC=>by
       have e1:=E.eq pr 11 85;simp[go_sem,gv,hC,hc9f,e1]
     ·exact OpOk.gd RB.refl 12 86 true c9f (b85) (fun _ _ h=>h) c12t hc12t _ (fun _=>rfl) fun ev w9 v hR E pr hC=>by
       have e1:=E.was 1 _;simp[go_sem,gv,hC,hc12t,e1]
     ·exact OpOk.gd RB.refl 12 86 true c9f (b85) (fun _ _ h=>h) c12t hc12t _ (fun _=>rfl) fun ev w9 v hR E pr hC=>by
       have e1:=E.eq pr 13 87;have cc:=(vR.next hR).cell (j:=7) (by omega);simp[lf]at cc;simp[go_sem,gv,hC,hc12t,cc,e1]
     ·exact OpOk.gd RB.refl 12 86 true c9f (b85) (fun _ _ h=>h) c12t hc12t _ (fun _=>rfl) fun ev w9 v hR E pr hC=>by
       have e1:=E.was 4 _;simp[go_sem,gv,hC,hc12t,e1]
     ·exact OpOk.gd RB.refl 12 86 true c9f (b85) (fun _ _ h=>h) c12t hc12t _ (fun _=>rfl) fun ev w9 v hR E pr hC=>by
       have e1:=E.eq pr 14 88;have e2:=E.eq pr 15 89;simp[go_sem,gv,hC,hc12t,hlt2,hk0,htn,e1,e2]
     ·exact OpOk.gd RB.refl 12 86 true c9f (b85) (fun _ _ h=>h) c12t hc12t _ (fun _=>rfl) fun ev w9 v hR E pr hC=>by
       have e1:=E.eq pr 16 90;have cc:=keep_cell hR nl (HV.out k hlt);simp[go_sem,gv,hC,hc12t,cc,e1]
     ·exact OpOk.gd RB.refl 12 86 true c9f (b85) (fun _ _ h=>h) c12t hc12t _ (fun _=>rfl) fun ev w9 v hR E pr hC=>by
       have e1:=E.was 1 _;simp[go_sem,gv,hC,hc12t,e1]
     ·exact OpOk.gd RB.refl 12 86 true c9f (b85) (fun _ _ h=>h) c12t hc12t _ (fun _=>rfl) fun ev w9 v hR E pr hC=>by
       have e1:=E.eq pr 18 92;have cc:=(vR.next hR).cell (j:=7) (by omega);simp[lf]at cc;simp[go_sem,gv,hC,hc12t,cc,e1]
     ·exact OpOk.gd RB.refl 12 86 true c9f (b85) (fun _ _ h=>h) c12t hc12t _ (fun _=>rfl) fun ev w9 v hR E pr hC=>by
       have e1:=E.was 4 _;simp[go_sem,gv,hC,hc12t,e1]
     ·exact OpOk.gd RB.refl 12 86 true c9f (b85) (fun _ _ h=>h) c12t hc12t _ (fun _=>rfl) fun ev w9 v hR E pr hC=>by
       have e1:=E.eq pr 20 94;simp[go_sem,gv,hC,hc12t,E.con,hw95,e1]
     ·exact OpOk.gd RB.refl 12 86 true c9f (b85) (fun _ _ h=>h) c12t hc12t _ (fun _=>rfl) fun ev w9 v hR E pr hC=>by
       have e1:=E.eq pr 19 93;have e2:=E.eq pr 21 95;have hkk:(0:Int)<(k:Int):=by (simp[hc12t,hc9f,qb85]at hC;omega)
       have hk1:(0:Int)<=(k:Int)-1:=by omega
       have hk4:(1:Int)<=(k:Int):=by omega
       have hk2:(k:Int)-1<(n.votes.length:Int):=by omega
       have hk3:((k:Int)-1).toNat=k-1:=by omega
       simp[go_sem,gv,hC,hc12t,hk1,hk2,hk3,hk4,e1,e2]
     ·exact OpOk.gd RB.refl 12 86 true c9f (b85) (fun _ _ h=>h) c12t hc12t _ (fun _=>rfl) fun ev w9 v hR E pr hC=>by
       have e1:=E.eq pr 22 96;have cc:=keep_cell hR nl (HV.out (k-1) (by omega));simp[go_sem,gv,hC,hc12t,cc,e1]
     ·exact OpOk.gd RB.refl 12 86 true c9f (b85) (fun _ _ h=>h) c12t hc12t _ (fun _=>rfl) fun ev w9 v hR E pr hC=>by
       have e1:=E.eq pr 17 91;have e2:=E.eq pr 23 97;simp[go_sem,gv,hC,hc12t,qb98,e1,e2]
     ·exact OpOk.gd RB.refl 9 83 false true (b82) (fun _ _ h=>h) c9f hc9f _ (fun _=>rfl) fun ev w9 v hR E pr hC=>by
       have e1:=E.eq pr 12 86;have e2:=E.eq pr 24 98;rcases Bool.eq_false_or_eq_true (b85) with hs|hs<;>simp[go_sem,gv,hC,hc9f,E.con,qb99,gv,hc12t,e1,e2,hs]
     ·exact oq rfl fun ev w9 v hR E pr=>by
       have e1:=E.eq pr 9 83;have e2:=E.eq pr 25 99;rcases Bool.eq_false_or_eq_true (b82) with hs|hs<;>simp[go_sem,E.con,qb100,gv,hc9f,e1,e2,hs]
    ·intro v w9 hR hp
     obtain⟨_,_,_,_,_,_,_,_,_,_,_,_,_,_,_,_,_,_,_,_,_,_,_,_,_,_,p26,_⟩:=hp;replace p26:v 26=.bool b100:=p26;simp only[putL,Nat.zero_add,Nat.reduceAdd,p26,Act.put,List.setIfInBounds_toArray,List.set_cons_zero,List.set_cons_succ]
     have eV:b100 = !(decide (lstV n.votes k<=iOf n.votes k)&&srvB n.peers (iOf n.votes k)):=by
      rw[<-vote_step];simp only[qb81,qb82,qb85,qb98,qb99,qb100]
     have hbR9:=RB.trans _ _ _ hbR hR;have hRW9:=RB.trans _ _ _ hRW hR;rw[votesB_at' _ _ hlt]at hq;rcases Bool.eq_false_or_eq_true (decide (lstV n.votes k<=iOf n.votes k)&&srvB n.peers (iOf n.votes k)) with hs|hs
     rotate_left
     ·rw[<-Bool.and_assoc,hs,Bool.false_and]at hq
      have hr:nodeR n=false:=by rw[hB.out,roleB_votes hq];rfl
      rw[eV,hs];clear eV qb81 qb82 qb85 qb98 qb99 qb100 hs hq;go_wp2;go_ret;exact⟨by rw[hr];rfl,hbR9⟩
     rw[<-Bool.and_assoc,hs,Bool.true_and]at hq;have el:lstV n.votes (k+1)=iOf n.votes k+1:=by simp[lstV]
     rw[<-el]at hq;rw[eV,hs];have hwk:IntKind.i64.wrap ((k:Int)+1)=(k:Int)+1:=by rw[IntKind.wrap_i64];omega
     clear eV qb81 qb82 qb85 qb98 qb99 qb100 hs el HV;go_wp2
     go_roundw
     case rel=>exact⟨k+1,by omega,by go_num,hq,by assumption⟩
     case measure=>simp[intOf];omega
   obtain rfl:k=n.votes.length:=by omega
   rw[votesB_end' _ _ nl]at hq;clear hk hlt;have ev0:n.votes.isEmpty=decide (n.votes.length=0):=by cases n.votes<;>simp
   have ex0:n.next.isEmpty=decide (n.next.length=0):=by cases n.next<;>simp
   have em0:n.mat.isEmpty=decide (n.mat.length=0):=by cases n.mat<;>simp
   by_cases h3:n.role=3
   rotate_left
   ·have hB2:Hid (nodeR n=roleB n):=by show _ = _;rw[hB.out];simp[h3]
    clear hB
    have hk2:(n.role=1/\n.votes.length=0\/n.role=2)->roleB n=(n.next.isEmpty&&n.mat.isEmpty):=fun hh=>by
     rcases hh with ⟨g1,g2⟩|g2
     ·simp[roleB,g1,ev0,g2]
     ·simp[roleB,g2,hq]
    have g3:(n.role != 3)=true:=by simp[h3]
    by_cases h1:n.role=1
    ·by_cases h2:n.votes.length=0
     rotate_left
     ·have er:Hid (roleB n=false):=by show _ = _;simp[roleB,h1,ev0,h2]
      have g1:(n.role==1)=true:=by simp[h1]
      have g2:(0:Int)<(n.votes.length:Int):=by omega
      clear hk2 h1 h2 h3;go_wp2;go_ret;exact⟨by rw[hB2.out,er.out];rfl,by assumption⟩
     ·have er:Hid (_ = _):=hk2 (.inl ⟨h1,h2⟩)
      have g1:(n.role==1)=true:=by simp[h1]
      have g2:¬ (0:Int)<(n.votes.length:Int):=by omega
      clear hk2 h1 h2 h3
      by_cases hx:n.next.length=0
      rotate_left
      ·have gx:((n.next.length:Int)==0)=false:=by rw[beq_eq_false_iff_ne];omega
       have e1:n.next.isEmpty=false:=by rw[ex0];simp[hx]
       clear hx;go_wp2;go_ret;exact⟨by rw[hB2.out,er.out,e1];rfl,by assumption⟩
      have gx:((n.next.length:Int)==0)=true:=by rw[beq_iff_eq];omega
      have e1:n.next.isEmpty=true:=by rw[ex0];simp[hx]
      clear hx
      by_cases hm:n.mat.length=0
      ·have gm:((n.mat.length:Int)==0)=true:=by rw[beq_iff_eq];omega
       have e2:n.mat.isEmpty=true:=by rw[em0];simp[hm]
       clear hm;go_wp2;go_ret;exact⟨by rw[hB2.out,er.out,e1,e2];rfl,by assumption⟩
      ·have gm:((n.mat.length:Int)==0)=false:=by rw[beq_eq_false_iff_ne];omega
       have e2:n.mat.isEmpty=false:=by rw[em0];simp[hm]
       clear hm;go_wp2;go_ret;exact⟨by rw[hB2.out,er.out,e1,e2];rfl,by assumption⟩
    ·have er:Hid (_ = _):=hk2 (.inr (by omega))
     have g1:(n.role==1)=false:=by simp[h1]
     clear hk2 h1 h3
     by_cases hx:n.next.length=0
     rotate_left
     ·have gx:((n.next.length:Int)==0)=false:=by rw[beq_eq_false_iff_ne];omega
      have e1:n.next.isEmpty=false:=by rw[ex0];simp[hx]
      clear hx;go_wp2;go_ret;exact⟨by rw[hB2.out,er.out,e1];rfl,by assumption⟩
     have gx:((n.next.length:Int)==0)=true:=by rw[beq_iff_eq];omega
     have e1:n.next.isEmpty=true:=by rw[ex0];simp[hx]
     clear hx
     by_cases hm:n.mat.length=0
     ·have gm:((n.mat.length:Int)==0)=true:=by rw[beq_iff_eq];omega
      have e2:n.mat.isEmpty=true:=by rw[em0];simp[hm]
      clear hm;go_wp2;go_ret;exact⟨by rw[hB2.out,er.out,e1,e2];rfl,by assumption⟩
     ·have gm:((n.mat.length:Int)==0)=false:=by rw[beq_eq_false_iff_ne];omega
      have e2:n.mat.isEmpty=false:=by rw[em0];simp[hm]
      clear hm;go_wp2;go_ret;exact⟨by rw[hB2.out,er.out,e1,e2];rfl,by assumption⟩
   have g1:(n.role==1)=false:=by simp[h3]
   have g3:(n.role != 3)=false:=by simp[h3]
   have hB2:Hid (nodeR n=(reachB n && !(n.term==0))):=by show _ = _;rw[hB.out];simp[roleB,h3,hq]
   clear hB h3 hRo hq ev0 ex0 em0
   by_cases h1:(n.next.length:Int)=n.peers
   rotate_left
   ·have hr:Hid (nodeR n=false):=by show _ = _;rw[hB2.out];simp[reachB,h1]
    have g4:((n.next.length:Int) != n.peers)=true:=by simp[h1]
    clear h1;go_wp2;go_ret;exact⟨by rw[hr.out];rfl,by assumption⟩
   by_cases h2:(n.mat.length:Int)=n.peers
   rotate_left
   ·have hr:Hid (nodeR n=false):=by show _ = _;rw[hB2.out];simp[reachB,h2]
    have g4:((n.next.length:Int) != n.peers)=false:=by simp[h1]
    have g5:((n.mat.length:Int) != n.peers)=true:=by simp[h2]
    clear h1 h2;go_wp2;go_ret;exact⟨by rw[hr.out];rfl,by assumption⟩
   have g4:((n.next.length:Int) != n.peers)=false:=by simp[h1]
   have g5:((n.mat.length:Int) != n.peers)=false:=by simp[h2]
   by_cases h0:n.term=0
   ·have hr:Hid (nodeR n=false):=by show _ = _;rw[hB2.out];simp[h0]
    have g6:(n.term==0)=true:=by simp[h0]
    clear h1 h2 h0;go_wp2;go_ret;exact⟨by rw[hr.out];rfl,by assumption⟩
   have g6:(n.term==0)=false:=by simp[h0]
   have hB3:Hid (nodeR n=(List.range n.next.length).all (reachAt n.log.length n.next n.mat)):=by show _ = _;rw[hB2.out,g6];simp[reachB,h1,h2]
   clear hB2 h0;have hpl:Hid (n.peers=(n.next.length:Int)):=h1.symm;have hml:Hid (n.mat.length=n.next.length):=by show _ = _;omega
   clear h1 h2
   go_wp2_with fail
   go_wp2;clear g1 g3 g4 g5 g6 c0 c1 c2 c3 c4 c5 c6 c7 c8 c9;have hbx:RB wr wr:=RB.refl _;generalize hwx:wr=W2 at hbR vR hMR hbx ⊢;clear hwx hbx;obtain⟨b,o,e,_,hcl⟩:=hMR.x (fun h=>by have:=ilc_len n.next;have h2:=hpl.out;rw[h]at this;simp at this;omega);simp only at e;subst e;obtain⟨b2,o2,e,_,hcl2⟩:=hMR.m (fun h=>by have:=ilc_len n.mat;have h2:=hpl.out;have h3:=hml.out;rw[h]at this;simp at this;omega);simp only at e;subst e;have HV:Hid (∀ k,k<n.next.length->W2.cell? ⟨b,o+k,none⟩=some (.int .i64 (iOf n.next k))/\W2.cell? ⟨b2,o2+k,none⟩=some (.int .i64 (iOf n.mat k))):=fun k hk=>⟨hcl _ _ (ilc_at hk),hcl2 _ _ (ilc_at (by rw[hml.out];exact hk))⟩
   clear hcl hcl2 hMR
   go_loopw [5] (fun x5 wr=>∃ k:Nat,k<=n.next.length/\x5=.int .i64 (k:Int)/\(∀ j,j<k->reachAt n.log.length n.next n.mat j=true)/\RB W2 wr) (fun x _=>n.next.length-(intOf x).toNat)
   case atStart=>exact⟨0,Nat.zero_le _,rfl,(fun j hj=>by omega),RB.refl _⟩
   case round=>
    obtain⟨k,hk,rfl,hq,hRW⟩:=hrel;have vS:NdB wr w.heap.size n ⟨lo,lc,vo,vc,some ⟨b,o,none⟩,nc,some ⟨b2,o2,none⟩,mc⟩:=VHas.next vR hRW;obtain⟨c0,c1,c2,c3,c4,c5,c6,c7,c8,c9⟩:=cN vS
    by_cases hlt:k<n.next.length
    rotate_left
    ·obtain rfl:k=n.next.length:=by omega
     have hge:¬ ((n.next.length:Int)<n.peers):=by have:=hpl.out;omega
     go_wp2;go_ret;exact⟨by rw[hB3.out,reach_all' hq];rfl,RB.trans _ _ _ hbR hRW⟩
    have hlt2:(k:Int)<n.peers:=by have:=hpl.out;omega
    have hltx:(k:Int)<(n.next.length:Int):=by omega
    have hltm:(k:Int)<(n.mat.length:Int):=by have:=hml.out;omega
    have cv1:=keep_cell hRW nl (HV.out k hlt).1;have cv2:=keep_cell hRW nl (HV.out k hlt).2;have hno:reachAt n.log.length n.next n.mat k=false->(List.range n.next.length).all (reachAt n.log.length n.next n.mat)=false:=fun h=>reach_no' hlt h
    have hyes:reachAt n.log.length n.next n.mat k=true->∀ j,j<k+1->reachAt n.log.length n.next n.mat j=true:=fun h j hj=>by
     by_cases e:j=k
     ·rw[e];exact h
     ·exact hq j (by omega)
    have er:reachAt n.log.length n.next n.mat k=(inB (iOf n.next k) 1 ((n.log.length:Int)+1)&&inB (iOf n.mat k) 0 (n.log.length:Int)):=by
     simp only[reachAt,inB_dec,<-Bool.decide_and];exact decide_eq_decide.2 (by omega)
    rw[er]at hno hyes;clear er hq;generalize iOf n.next k=x at hno hyes cv1;generalize iOf n.mat k=y at hno hyes cv2;have hno:Hid _:=hno;have hyes:Hid _:=hyes;have hwl:IntKind.i64.wrap ((n.log.length:Int)+1)=(n.log.length:Int)+1:=by rw[IntKind.wrap_i64];omega
    have hwk:IntKind.i64.wrap ((k:Int)+1)=(k:Int)+1:=by rw[IntKind.wrap_i64];omega
    go_wp2_with fail
    refine (l1In_rb x 1 ((n.log.length:Int)+1) _).mono ?_;rintro e w1 ⟨rfl,hb1⟩;replace cv2:=keep_cell hb1 nl cv2;replace vS:=VHas.next vS hb1;clear c0 c1 c2 c3 c4 c5 c6 c7 c8 c9 cv1;obtain⟨c0,c1,c2,c3,c4,c5,c6,c7,c8,c9⟩:=cN vS;have hbS:=RB.trans _ _ _ hbR (RB.trans _ _ _ hRW hb1);have hRS:=RB.trans _ _ _ hRW hb1;rcases Bool.eq_false_or_eq_true (inB x 1 ((n.log.length:Int)+1)) with h1|h1
    rotate_left
    ·have hf:=hno.out (by rw[h1];rfl)
     rw[h1];clear hno hyes;have hf:Hid _:=hf;go_wp2;go_ret;exact⟨by rw[hB3.out,hf.out];rfl,hbS⟩
    rw[h1]
    go_wp2_with fail
    refine (l1In_rb y 0 (n.log.length:Int) _).mono ?_;rintro e w2 ⟨rfl,hb2⟩;rcases Bool.eq_false_or_eq_true (inB y 0 (n.log.length:Int)) with h2|h2
    rotate_left
    ·have hf:=hno.out (by rw[h1,h2];rfl)
     rw[h2];clear hno hyes;have hf:Hid _:=hf;go_wp2;go_ret;exact⟨by rw[hB3.out,hf.out];rfl,RB.trans _ _ _ hbS hb2⟩
    have ht:=hyes.out (by rw[h1,h2];rfl);rw[h2];clear hno hyes h1 h2;go_wp2
    go_roundw
    case rel=>exact⟨k+1,by omega,by go_num,ht,RB.trans _ _ _ hRS hb2⟩
    case measure=>simp[intOf];omega
end
section
open Go Go.RowKit
theorem exec_to {o:Oper} {ev:Operand->Value} {x y:Operand} {ao:Option Addr} {n c i:Nat} {w:World} (ho:o.op=.slice 24 x none (some y) none) (hx:ev x=.slice ao n c) (hy:ev y=.int .i64 (i:Int)) (hi:i<=n) (hn:n<=c):(execOp ev o).run Tryz.prog w=.ok (.value (.slice ao i c)) w:=by
 unfold execOp;have h1:(i:Int)<=(c:Int):=by omega
 have h2:(0:Int)<=(i:Int):=by omega
 have h3:(i:Int).toNat=i:=by omega
 cases ao<;>simp[ho,hx,hy,go_sem,h1,h2,h3]
theorem elc_app:∀ a b:List En,elc (a++b)=elc a++elc b
 | [],b=>rfl
 | e :: a,b=>by simp[elc,elc_app a b]
theorem elc_take (l:List En) (i:Nat):elc (l.take i)=(elc l).take (i*2):=by
 by_cases h:i<=l.length
 ·have e:=elc_app (l.take i) (l.drop i)
  rw[List.take_append_drop]at e;have e2:(elc (l.take i)).length=i*2:=by rw[elc_len,List.length_take,Nat.min_eq_left h]
  rw[e,<-e2,List.take_left]
 ·rw[List.take_of_length_le (by omega),List.take_of_length_le (by rw[elc_len];omega)]
theorem elc_drop (l:List En) (i:Nat):elc (l.drop i)=(elc l).drop (i*2):=by
 by_cases h:i<=l.length
 ·have e:=elc_app (l.take i) (l.drop i)
  rw[List.take_append_drop]at e;have e2:(elc (l.take i)).length=i*2:=by rw[elc_len,List.length_take,Nat.min_eq_left h]
  rw[e,<-e2,List.drop_left]
 ·rw[List.drop_eq_nil_of_le (by omega),List.drop_eq_nil_of_le (by rw[elc_len];omega)]
  rfl
theorem LRow.take {w:World} {t:TypeId} {ao:Option Addr} {cs:List Value} (h:LRow w t ao cs) (k:Nat):LRow w t ao (cs.take k):=fun hc=>by
 obtain⟨b,o,e,ht,h2⟩:=h (fun q=>hc (by rw[q];simp));refine⟨b,o,e,ht,fun j v hj=>h2 j v ?_⟩;rw[List.getElem?_take]at hj
 split at hj
 ·exact hj
 ·cases hj
theorem LRow.drop {w:World} {t:TypeId} {b o:Nat} {cs:List Value} (h:LRow w t (some ⟨b,o,none⟩) cs) (k:Nat):LRow w t (some ⟨b,o+k,none⟩) (cs.drop k):=fun hc=>by
 obtain⟨b',o',e,ht,h2⟩:=h (fun q=>hc (by rw[q];simp));cases e;refine⟨b,o+k,rfl,ht,fun j v hj=>?_⟩;rw[List.getElem?_drop]at hj;have:=h2 _ _ hj;rw[Nat.add_assoc];exact this
theorem exec_from {o:Oper} {ev:Operand->Value} {x y:Operand} {ao:Option Addr} {l:List En} {c i:Nat} {w:World} (ho:o.op=.slice 24 x (some y) none none) (hx:ev x=.slice ao l.length c) (hy:ev y=.int .i64 (i:Int)) (hi:i<=l.length) (hn:l.length<=c) (hr:LRow w 47 ao (elc l)):
  ∃ ao' c',(execOp ev o).run Tryz.prog w=.ok (.value (.slice ao' (l.drop i).length c')) w/\(l.drop i).length<=c'/\LRow w 47 ao' (elc (l.drop i)):=by
 have h1:(i:Int)<=(c:Int):=by omega
 have h2:(0:Int)<=(i:Int):=by omega
 have h3:(i:Int).toNat=i:=by omega
 rw[List.length_drop];cases ao with
 | none=>
  refine⟨none,c-i,?_,by omega,fun hc=>?_⟩
  ·unfold execOp
   simp[ho,hx,hy,go_sem,h1,h2,h3,hi]
  ·obtain⟨b,o',e,_⟩:=hr (fun q=>hc (by rw[elc_drop,q];simp))
   cases e
 | some a=>
  refine⟨if c=i then some a else some (a.add (i*2)),c-i,?_,by omega,fun hc=>?_⟩
  ·unfold execOp
   simp[ho,hx,hy,go_sem,h1,h2,h3,hi]
  ·have hlt:i<l.length:=by
    rcases Nat.lt_or_ge i l.length with q|q
    ·exact q
    ·exfalso
     apply hc;rw[List.drop_eq_nil_of_le q];rfl
   obtain⟨b,o',e,_⟩:=hr (fun q=>hc (by rw[elc_drop,q];simp));cases e;rw[if_neg (by omega),Addr.add_mid,elc_drop];exact LRow.drop hr (i*2) (by rw[<-elc_drop];exact hc)
theorem exec_min {P:Program} {o:Oper} {ev:Operand->Value} {x y:Operand} {t:TypeId} {u v:Int} {w:World} (ho:o.op=.call { callee:=.builtin .min,args:=#[x,y],argTypes:=#[t,t] }) (hx:ev x=.int .i64 u) (hy:ev y=.int .i64 v):(execOp ev o).run P w=.ok (.value (.int .i64 (min u v))) w:=by
 by_cases h:v<u
 ·have e:min u v=v:=by omega
  simp[execOp,ho,resolve,invoke,builtin,hx,hy,Builtin.min_,Builtin.min2,h,e]
 ·have e:min u v=u:=by omega
  simp[execOp,ho,resolve,invoke,builtin,hx,hy,Builtin.min_,Builtin.min2,h,e]
def SlE (l:List En) (v:Value) (w:World):Prop:=∃ ao c,v=.slice ao l.length c/\l.length<=c/\LRow w 47 ao (elc l)
theorem SlE.rb {l:List En} (v:Value) (w w':World) (h:SlE l v w) (hb:RB w w'):SlE l v w':=by
 obtain⟨ao,c,e,hc,hr⟩:=h;exact⟨ao,c,e,hc,hr.next hb⟩
theorem from_ok {o:Oper} {ev:Operand->Value} {x y:Operand} {ao:Option Addr} {l:List En} {c i:Nat} {w:World} (ho:o.op=.slice 24 x (some y) none none) (hx:ev x=.slice ao l.length c) (hy:ev y=.int .i64 (i:Int)) (hi:i<=l.length) (hn:l.length<=c) (hr:LRow w 47 ao (elc l)):
  ∃ u w',(execOp ev o).run Tryz.prog w=.ok (.value u) w'/\RB w w'/\SlE (l.drop i) u w':=by
 obtain⟨ao',c',h0,h1,h2⟩:=exec_from ho hx hy hi hn hr;exact⟨_,w,h0,RB.refl _,ao',c',rfl,h1,h2⟩
end
section
open Go Go.RowKit
attribute [local go_sem ↓] Go.wp_at_zero Go.wp_at_succ
set_option maxRecDepth 100000 in
set_option maxHeartbeats 2000000 in
theorem copyOfNode_any (n:Nd) (s:NdS) (hz:NdZ n s) (w:World) (hM:NdM w n s):Calls Tryz.prog 30 #[ndV n s] w fun e w'=>∃ s',e=.returned (ndV n s')/\NdO w' w.heap.size n s'/\RB w w':=by
 have hb:=RB.trans _ _ _ (RB.alloc w (.cells (ndL n s).toArray 27)) (RB.alloc _ (.cells (ndL nd0 ns0).toArray 27));have vA:NdB _ w.heap.size n s:=(ndB_new w n s).next (RB.alloc _ (.cells (ndL nd0 ns0).toArray 27));have vR:=ndB_new (w.alloc (.cells (ndL n s).toArray 27)) nd0 ns0;rw[World.size_alloc]at vR;replace hM:=hM.next hb;obtain⟨hzl,hzv,hzx,hzm,_,_,_,_,_⟩:=hz;go_enter Tryz.func30,Tryz.ntmps30
 go_wp2_with fail
 generalize ((w.alloc _).alloc _)=W at hb vA vR hM ⊢;refine (cloneL_any s.lo s.lc n.log hzl _ hM.l).mono ?_;rintro e u0 ⟨a0,c0,rfl,o0,hb0⟩;replace o0:=o0.from hb.size
 replace hb:=RB.trans _ _ _ hb hb0;replace vA:NdB u0 w.heap.size n s:=VHas.next vA hb0;replace vR:NdB u0 (w.heap.size+1) nd0 ns0:=VHas.next vR hb0;replace hM:=hM.next hb0
 go_wp2_with (with_reducible refine wC 24 (.tmp 6) (.tmp 5) w.heap.size 4 (.slice a0 n.log.length c0) vA ?_;intro W0 hW0;have hg:=gr_setCell u0 w.heap.size 4 (.slice a0 n.log.length c0);have hT:=ndT vA;replace vA:NdB _ w.heap.size n ⟨a0,c0,s.vo,s.vc,s.no,s.nc,s.mo,s.mc⟩:=NdB.put vA 4 (by omega) (.slice a0 n.log.length c0) rfl;replace vR:NdB _ (w.heap.size+1) nd0 ns0:=VHas.grown vR hg (fun e=>by have:=Option.some.inj e;omega);replace hb:=gr_rb hb hg nl;replace hM:=hM.gr hg hT (by decide) (by decide);replace o0:=o0.gr hg hT (by decide);rw[<-hW0]at vA vR hb hM o0;clear hW0 hg hT;have cc:=VHas.cell vA (j:=7) (by omega);simp[lf]at cc)
 clear cc;refine (cloneJ_any s.vo s.vc n.votes hzv _ hM.v).mono ?_;rintro e u1 ⟨a1,c1,rfl,o1,hb1⟩;replace o1:=o1.from hb.size
 replace hb:=RB.trans _ _ _ hb hb1;replace vA:NdB u1 w.heap.size n ⟨a0,c0,s.vo,s.vc,s.no,s.nc,s.mo,s.mc⟩:=VHas.next vA hb1;replace vR:NdB u1 (w.heap.size+1) nd0 ns0:=VHas.next vR hb1;replace hM:=hM.next hb1;replace o0:=o0.next hb1
 go_wp2_with (with_reducible refine wC 25 (.tmp 10) (.tmp 9) w.heap.size 7 (.slice a1 n.votes.length c1) vA ?_;intro W1 hW1;have hg:=gr_setCell u1 w.heap.size 7 (.slice a1 n.votes.length c1);have hT:=ndT vA;replace vA:NdB _ w.heap.size n ⟨a0,c0,a1,c1,s.no,s.nc,s.mo,s.mc⟩:=NdB.put vA 7 (by omega) (.slice a1 n.votes.length c1) rfl;replace vR:NdB _ (w.heap.size+1) nd0 ns0:=VHas.grown vR hg (fun e=>by have:=Option.some.inj e;omega);replace hb:=gr_rb hb hg nl;replace hM:=hM.gr hg hT (by decide) (by decide);replace o0:=o0.gr hg hT (by decide);replace o1:=o1.gr hg hT (by decide);rw[<-hW1]at vA vR hb hM o0 o1;clear hW1 hg hT;have cc:=VHas.cell vA (j:=8) (by omega);simp[lf]at cc)
 clear cc;refine (cloneJ_any s.no s.nc n.next hzx _ hM.x).mono ?_;rintro e u2 ⟨a2,c2,rfl,o2,hb2⟩;have d12:=blk_ne o1 o2;replace o2:=o2.from hb.size
 replace hb:=RB.trans _ _ _ hb hb2;replace vA:NdB u2 w.heap.size n ⟨a0,c0,a1,c1,s.no,s.nc,s.mo,s.mc⟩:=VHas.next vA hb2;replace vR:NdB u2 (w.heap.size+1) nd0 ns0:=VHas.next vR hb2;replace hM:=hM.next hb2;replace o0:=o0.next hb2;replace o1:=o1.next hb2
 go_wp2_with (with_reducible refine wC 25 (.tmp 14) (.tmp 13) w.heap.size 8 (.slice a2 n.next.length c2) vA ?_;intro W2 hW2;have hg:=gr_setCell u2 w.heap.size 8 (.slice a2 n.next.length c2);have hT:=ndT vA;replace vA:NdB _ w.heap.size n ⟨a0,c0,a1,c1,a2,c2,s.mo,s.mc⟩:=NdB.put vA 8 (by omega) (.slice a2 n.next.length c2) rfl;replace vR:NdB _ (w.heap.size+1) nd0 ns0:=VHas.grown vR hg (fun e=>by have:=Option.some.inj e;omega);replace hb:=gr_rb hb hg nl;replace hM:=hM.gr hg hT (by decide) (by decide);replace o0:=o0.gr hg hT (by decide);replace o1:=o1.gr hg hT (by decide);replace o2:=o2.gr hg hT (by decide);rw[<-hW2]at vA vR hb hM o0 o1 o2;clear hW2 hg hT;have cc:=VHas.cell vA (j:=9) (by omega);simp[lf]at cc)
 clear cc;refine (cloneJ_any s.mo s.mc n.mat hzm _ hM.m).mono ?_;rintro e u3 ⟨a3,c3,rfl,o3,hb3⟩;have d13:=blk_ne o1 o3;have d23:=blk_ne o2 o3;replace o3:=o3.from hb.size
 replace hb:=RB.trans _ _ _ hb hb3;replace vA:NdB u3 w.heap.size n ⟨a0,c0,a1,c1,a2,c2,s.mo,s.mc⟩:=VHas.next vA hb3;replace vR:NdB u3 (w.heap.size+1) nd0 ns0:=VHas.next vR hb3;replace hM:=hM.next hb3;replace o0:=o0.next hb3;replace o1:=o1.next hb3;replace o2:=o2.next hb3
 go_wp2_with (first|(with_reducible refine wC 25 (.tmp 18) (.tmp 17) w.heap.size 9 (.slice a3 n.mat.length c3) vA ?_;intro W3 hW3;have hg:=gr_setCell u3 w.heap.size 9 (.slice a3 n.mat.length c3);have hT:=ndT vA;replace vA:NdB _ w.heap.size n ⟨a0,c0,a1,c1,a2,c2,a3,c3⟩:=NdB.put vA 9 (by omega) (.slice a3 n.mat.length c3) rfl;replace vR:NdB _ (w.heap.size+1) nd0 ns0:=VHas.grown vR hg (fun e=>by have:=Option.some.inj e;omega);replace hb:=gr_rb hb hg nl;replace hM:=hM.gr hg hT (by decide) (by decide);replace o0:=o0.gr hg hT (by decide);replace o1:=o1.gr hg hT (by decide);replace o2:=o2.gr hg hT (by decide);replace o3:=o3.gr hg hT (by decide);rw[<-hW3]at vA vR hb hM o0 o1 o2 o3;clear hW3 hg hT;obtain⟨d0,d1,d2,d3,d4,d5,d6,d7,d8,d9⟩:=cN vA)|(with_reducible refine wB 27 (.tmp 2) (.tmp 19) (w.heap.size+1) (ndL n ⟨a0,c0,a1,c1,a2,c2,a3,c3⟩) vR ?_;intro W9 hv9 hg9))
 obtain⟨q0,q1,q2,q3,q4,q5,q6,q7,q8,q9⟩:=cN hv9;have hT:=ndT vR;have hO:NdO W9 w.heap.size n ⟨a0,c0,a1,c1,a2,c2,a3,c3⟩:=⟨o0.gr hg9 hT (by decide),o1.gr hg9 hT (by decide),o2.gr hg9 hT (by decide),o3.gr hg9 hT (by decide),d12,d13,d23⟩
 exact bodyPost_ret (v:=ndV n ⟨a0,c0,a1,c1,a2,c2,a3,c3⟩) (by simp[results,Tryz.results30,go_sem,q0,q1,q2,q3,q4,q5,q6,q7,q8,q9]) rfl ⟨⟨a0,c0,a1,c1,a2,c2,a3,c3⟩,rfl,hO,gr_rb hb hg9 (by omega)⟩
end
end Go.Proofs.YtbabakgjkloabaaGreatDoor
