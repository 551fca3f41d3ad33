/-
  Helpers: Sn2, Nd2, Ms3, Sn4, Orda.
-/
import Derived.Test.YtbabakgjkloabaaGreatDoorPack8
import Derived.Test.YtbabakgjkloabaaGreatDoorPack1
import Derived.Test.YtbabakgjkloabaaGreatDoorPack9
import Derived.Test.YtbabakgjkloabaaGreatDoorPack10
import Derived.Test.YtbabakgjkloabaaGreatDoorPack2
set_option linter.unusedVariables false
set_option linter.unusedSimpArgs false
namespace Go.Proofs.YtbabakgjkloabaaGreatDoor
section
open Go Go.RowKit
attribute [local go_sem ↓] Go.wp_at_zero Go.wp_at_succ
theorem Tryz.elEnQ:ElI Tryz.prog 24 47 2 24:=⟨Tryz.underlying24,by
 obtain⟨i0,hi0,hz0,hz1,hz2⟩:=info_parts (show (Tryz.prog.info? 47).map (fun i=>(i.zero,i.size,i.bytes))=some (some (.agg #[.int .i64 0,.string ByteArray.empty]),2,24) by kernel_rfl)
 exact⟨i0,_,hi0,hz0,hz1,hz2,rfl⟩,by omega,by omega⟩
theorem Tryz.elIQ:ElI Tryz.prog 25 2 1 8:=⟨Tryz.underlying25,by
 obtain⟨i0,hi0,hz0,hz1,hz2⟩:=info_parts Tryz.info9I
 exact⟨i0,_,hi0,hz0,hz1,hz2,rfl⟩,by omega,by omega⟩
theorem wpList_cat0 {P:Program} {ops:Array Oper} {o:Oper} {rest:List Oper} {a:Act} {w:World} {Q:Exit->Act->World->Prop} (hgd:o.guard=none) (s x:Operand) {t e:TypeId} {size bytes:Nat} (E:ElI P t e size bytes) (ho:o.op=.call { callee:=.builtin .append,args:=#[s,x],argTypes:=#[t,t] }) (d:Nat) (hd:o.dst=some d) (base g0:Nat) (f:Nat->Value) (hs:a.eval s=.slice (some ⟨g0,0,none⟩) 0 0) (h0:GOwn w base e size (some ⟨g0,0,none⟩) 0 0 f) (so:Option Addr) (m c:Nat) (g:Nat->Value) (hx:a.eval x=.slice so m c) (hr:GRow w so (m*size) g) (h1:∀ j,j<m*size->(g j).oneCell'=true) (hn:m<=100000000) (hbase:base<=w.heap.size)
  (h:∀ ao' cap' w',GOwn w' base e size ao' m cap' g->w.grownBy w' (some g0)->wpList P ops Q rest (a.put (some d) (.slice ao' m cap')) w'):wpList P ops Q (o :: rest) a w:=by
 refine wpList_appR hgd s x E ho d hd base f _ 0 0 hs h0 so m c g hx hr h1 (by omega) hbase (fun ao' cap' w' h2 h3=>?_);rw[Nat.zero_add]at h2 ⊢;exact h ao' cap' w' (h2.congr (fun j hj=>by simp)) h3
theorem typed_new (w:World) (cs:Array Value) (t:TypeId):Typed (w.alloc (.cells cs t)) w.heap.size t:=⟨cs,_,Go.Deep.blk_alloc_new _ _⟩
theorem blk_old {w:World} {base cap:Nat} {ao:Option Addr} {l:List Int} (h:OwI w base ao cap l):blk ao≠some w.heap.size:=fun e=>by
 have:=(h.at e).2;omega
theorem elc_one (l:List En) (j:Nat) (h:j<l.length*2):(lf (elc l) j).oneCell'=true:=by
 rw[elc_lf l j h];unfold nr
 split<;>rfl
theorem ilc_one (l:List Int) (j:Nat) (h:j<l.length*1):(lf (ilc l) j).oneCell'=true:=by
 rw[ilc_lf l j (by omega)];rfl
set_option maxRecDepth 100000 in
set_option maxHeartbeats 8000000 in
theorem specCopy_any (n:Nd) (s:NdS) (hz:NdZ n s) (w:World) (hM:NdM w n s):Calls Tryz.prog 38 #[ndV n s] w fun e w'=>∃ s',e=.returned (ndV n s')/\NdO w' w.heap.size n s'/\RB w w':=by
 obtain⟨lo,lc,vo,vc,no,nc,mo,mc⟩:=s;have hb:=RB.trans _ _ _ (RB.alloc w (.cells (ndL n ⟨lo,lc,vo,vc,no,nc,mo,mc⟩).toArray 27)) (RB.alloc _ (.cells (ndL nd0 ns0).toArray 27));have vA:NdB _ w.heap.size n ⟨lo,lc,vo,vc,no,nc,mo,mc⟩:=(ndB_new w n ⟨lo,lc,vo,vc,no,nc,mo,mc⟩).next (RB.alloc _ (.cells (ndL nd0 ns0).toArray 27));have vR:=ndB_new (w.alloc (.cells (ndL n ⟨lo,lc,vo,vc,no,nc,mo,mc⟩).toArray 27)) nd0 ns0;rw[World.size_alloc]at vR;have hM0:Hid (NdM w n ⟨lo,lc,vo,vc,no,nc,mo,mc⟩):=hM;have hzl:=hz.l;have hzv:=hz.v;have hzx:=hz.x;have hzm:=hz.m;clear hz hM;go_enter Tryz.func38,Tryz.ntmps38;refine wp_seq_h' fun K0 hK0=>?_
 go_wp2;refine hK0.out _ _ ?_;clear hK0;have hsR:w.heap.size+1 < _:=vR.lt;generalize ((w.alloc _).alloc _)=W0 at hb vA vR hsR ⊢;have hal0:=RB.alloc W0 (.cells #[] 47);have hE0:GOwn (W0.alloc (.cells #[] 47)) W0.heap.size 47 2 (some ⟨W0.heap.size,0,none⟩) 0 0 (fun _=>undef):=GOwn.empty W0 47 2 _;have wA0:NdB (W0.alloc (.cells #[] 47)) w.heap.size n ⟨lo,lc,vo,vc,no,nc,mo,mc⟩:=VHas.next vA hal0;have wR0:NdB (W0.alloc (.cells #[] 47)) (w.heap.size+1) nd0 ns0:=VHas.next vR hal0;have wb0:=RB.trans _ _ _ hb hal0;have hr0:GRow (W0.alloc (.cells #[] 47)) lo (n.log.length*2) (lf (elc n.log)):=LRow.g (hM0.out.next wb0).l (by rw[elc_len]);have hsz0:W0.heap.size<=(W0.alloc (.cells #[] 47)).heap.size:=hal0.size;have hgt0:Typed (W0.alloc (.cells #[] 47)) W0.heap.size 47:=typed_new W0 _ 47;obtain⟨f0,f1,f2,f3,f4,f5,f6,f7,f8,f9⟩:=cN wA0
 go_wp2_with (first|(at_builtin;(with_reducible refine wpList_cat0 rfl (.tmp 3) (.tmp 5) Tryz.elEnQ rfl 6 rfl W0.heap.size W0.heap.size _ (by simp[go_sem]) hE0 lo n.log.length lc (lf (elc n.log)) (by simp[go_sem]) hr0 (elc_one n.log) (by omega) hsz0 ?_);intro lo0 lc0 U0 hO0 hg0;have xA0:NdB U0 w.heap.size n ⟨lo,lc,vo,vc,no,nc,mo,mc⟩:=VHas.grown wA0 hg0 (fun e=>by have:=Option.some.inj e;omega))|((with_reducible refine wN 24 (.tmp 7) (.tmp 6) w.heap.size 4 (.slice lo0 n.log.length lc0) n ⟨lo0,lc0,vo,vc,no,nc,mo,mc⟩ xA0 ?_);intro X0 vX0 hx0;have hT0:∀ z,some W0.heap.size=some z->Typed (W0.alloc (.cells #[] 47)) z 47:=(fun z e=>by cases e;exact hgt0);have yb0:=gr_rb (gr_rb wb0 hg0 (by omega)) hx0 nl;have yR0:NdB X0 (w.heap.size+1) nd0 ns0:=VHas.grown (VHas.grown wR0 hg0 (fun e=>by have:=Option.some.inj e;omega)) hx0 (fun e=>by have:=Option.some.inj e;omega);have hN0:OwE X0 W0.heap.size lo0 lc0 n.log:=GOwn.gr hO0 hx0 (ndT xA0) (by decide);have hS0:W0.heap.size+1<=X0.heap.size:=Nat.le_trans (by simp[World.size_alloc]) (Nat.le_trans hg0.size hx0.size);clear f0 f1 f2 f3 f4 f5 f6 f7 f8 f9;have hal1:=RB.alloc X0 (.cells #[] 2);have hE1:GOwn (X0.alloc (.cells #[] 2)) X0.heap.size 2 1 (some ⟨X0.heap.size,0,none⟩) 0 0 (fun _=>undef):=GOwn.empty X0 2 1 _;have wA1:NdB (X0.alloc (.cells #[] 2)) w.heap.size n ⟨lo0,lc0,vo,vc,no,nc,mo,mc⟩:=VHas.next vX0 hal1;have wR1:NdB (X0.alloc (.cells #[] 2)) (w.heap.size+1) nd0 ns0:=VHas.next yR0 hal1;have wb1:=RB.trans _ _ _ yb0 hal1;have hr1:GRow (X0.alloc (.cells #[] 2)) vo (n.votes.length*1) (lf (ilc n.votes)):=LRow.g (hM0.out.next wb1).v (by rw[ilc_len];omega);have hN0a:=hN0.next hal1;have hsz1:X0.heap.size<=(X0.alloc (.cells #[] 2)).heap.size:=hal1.size;have hgt1:Typed (X0.alloc (.cells #[] 2)) X0.heap.size 2:=typed_new X0 _ 2;obtain⟨f0,f1,f2,f3,f4,f5,f6,f7,f8,f9⟩:=cN wA1)|(at_builtin;(with_reducible refine wpList_cat0 rfl (.tmp 8) (.tmp 10) Tryz.elIQ rfl 11 rfl X0.heap.size X0.heap.size _ (by simp[go_sem]) hE1 vo n.votes.length vc (lf (ilc n.votes)) (by simp[go_sem]) hr1 (ilc_one n.votes) (by omega) hsz1 ?_);intro vo1 vc1 U1 hO1 hg1;have xA1:NdB U1 w.heap.size n ⟨lo0,lc0,vo,vc,no,nc,mo,mc⟩:=VHas.grown wA1 hg1 (fun e=>by have:=Option.some.inj e;omega))|((with_reducible refine wN 25 (.tmp 12) (.tmp 11) w.heap.size 7 (.slice vo1 n.votes.length vc1) n ⟨lo0,lc0,vo1,vc1,no,nc,mo,mc⟩ xA1 ?_);intro X1 vX1 hx1;have hT1:∀ z,some X0.heap.size=some z->Typed (X0.alloc (.cells #[] 2)) z 2:=(fun z e=>by cases e;exact hgt1);have yb1:=gr_rb (gr_rb wb1 hg1 (by omega)) hx1 nl;have yR1:NdB X1 (w.heap.size+1) nd0 ns0:=VHas.grown (VHas.grown wR1 hg1 (fun e=>by have:=Option.some.inj e;omega)) hx1 (fun e=>by have:=Option.some.inj e;omega);have hN1:OwI X1 X0.heap.size vo1 vc1 n.votes:=GOwn.gr hO1 hx1 (ndT xA1) (by decide);have hS1:X0.heap.size+1<=X1.heap.size:=Nat.le_trans (by simp[World.size_alloc]) (Nat.le_trans hg1.size hx1.size);clear f0 f1 f2 f3 f4 f5 f6 f7 f8 f9;have hN0ab:=(hN0a.gr hg1 hT1 (by decide)).gr hx1 (ndT xA1) (by decide);have hal2:=RB.alloc X1 (.cells #[] 2);have hE2:GOwn (X1.alloc (.cells #[] 2)) X1.heap.size 2 1 (some ⟨X1.heap.size,0,none⟩) 0 0 (fun _=>undef):=GOwn.empty X1 2 1 _;have wA2:NdB (X1.alloc (.cells #[] 2)) w.heap.size n ⟨lo0,lc0,vo1,vc1,no,nc,mo,mc⟩:=VHas.next vX1 hal2;have wR2:NdB (X1.alloc (.cells #[] 2)) (w.heap.size+1) nd0 ns0:=VHas.next yR1 hal2;have wb2:=RB.trans _ _ _ yb1 hal2;have hr2:GRow (X1.alloc (.cells #[] 2)) no (n.next.length*1) (lf (ilc n.next)):=LRow.g (hM0.out.next wb2).x (by rw[ilc_len];omega);have hN0aba:=hN0ab.next hal2;have hN1a:=hN1.next hal2;have hsz2:X1.heap.size<=(X1.alloc (.cells #[] 2)).heap.size:=hal2.size;have hgt2:Typed (X1.alloc (.cells #[] 2)) X1.heap.size 2:=typed_new X1 _ 2;obtain⟨f0,f1,f2,f3,f4,f5,f6,f7,f8,f9⟩:=cN wA2)|(at_builtin;(with_reducible refine wpList_cat0 rfl (.tmp 13) (.tmp 15) Tryz.elIQ rfl 16 rfl X1.heap.size X1.heap.size _ (by simp[go_sem]) hE2 no n.next.length nc (lf (ilc n.next)) (by simp[go_sem]) hr2 (ilc_one n.next) (by omega) hsz2 ?_);intro no2 nc2 U2 hO2 hg2;have xA2:NdB U2 w.heap.size n ⟨lo0,lc0,vo1,vc1,no,nc,mo,mc⟩:=VHas.grown wA2 hg2 (fun e=>by have:=Option.some.inj e;omega))|((with_reducible refine wN 25 (.tmp 17) (.tmp 16) w.heap.size 8 (.slice no2 n.next.length nc2) n ⟨lo0,lc0,vo1,vc1,no2,nc2,mo,mc⟩ xA2 ?_);intro X2 vX2 hx2;have hne2hN1a:=blk_old hN1;have hT2:∀ z,some X1.heap.size=some z->Typed (X1.alloc (.cells #[] 2)) z 2:=(fun z e=>by cases e;exact hgt2);have yb2:=gr_rb (gr_rb wb2 hg2 (by omega)) hx2 nl;have yR2:NdB X2 (w.heap.size+1) nd0 ns0:=VHas.grown (VHas.grown wR2 hg2 (fun e=>by have:=Option.some.inj e;omega)) hx2 (fun e=>by have:=Option.some.inj e;omega);have hN2:OwI X2 X1.heap.size no2 nc2 n.next:=GOwn.gr hO2 hx2 (ndT xA2) (by decide);have hS2:X1.heap.size+1<=X2.heap.size:=Nat.le_trans (by simp[World.size_alloc]) (Nat.le_trans hg2.size hx2.size);clear f0 f1 f2 f3 f4 f5 f6 f7 f8 f9;have hN0abab:=(hN0aba.gr hg2 hT2 (by decide)).gr hx2 (ndT xA2) (by decide);have hN1ab:=(hN1a.apart hg2 (hne2hN1a)).gr hx2 (ndT xA2) (by decide);have hal3:=RB.alloc X2 (.cells #[] 2);have hE3:GOwn (X2.alloc (.cells #[] 2)) X2.heap.size 2 1 (some ⟨X2.heap.size,0,none⟩) 0 0 (fun _=>undef):=GOwn.empty X2 2 1 _;have wA3:NdB (X2.alloc (.cells #[] 2)) w.heap.size n ⟨lo0,lc0,vo1,vc1,no2,nc2,mo,mc⟩:=VHas.next vX2 hal3;have wR3:NdB (X2.alloc (.cells #[] 2)) (w.heap.size+1) nd0 ns0:=VHas.next yR2 hal3;have wb3:=RB.trans _ _ _ yb2 hal3;have hr3:GRow (X2.alloc (.cells #[] 2)) mo (n.mat.length*1) (lf (ilc n.mat)):=LRow.g (hM0.out.next wb3).m (by rw[ilc_len];omega);have hN0ababa:=hN0abab.next hal3;have hN1aba:=hN1ab.next hal3;have hN2a:=hN2.next hal3;have hsz3:X2.heap.size<=(X2.alloc (.cells #[] 2)).heap.size:=hal3.size;have hgt3:Typed (X2.alloc (.cells #[] 2)) X2.heap.size 2:=typed_new X2 _ 2;obtain⟨f0,f1,f2,f3,f4,f5,f6,f7,f8,f9⟩:=cN wA3)|(at_builtin;(with_reducible refine wpList_cat0 rfl (.tmp 18) (.tmp 20) Tryz.elIQ rfl 21 rfl X2.heap.size X2.heap.size _ (by simp[go_sem]) hE3 mo n.mat.length mc (lf (ilc n.mat)) (by simp[go_sem]) hr3 (ilc_one n.mat) (by omega) hsz3 ?_);intro mo3 mc3 U3 hO3 hg3;have xA3:NdB U3 w.heap.size n ⟨lo0,lc0,vo1,vc1,no2,nc2,mo,mc⟩:=VHas.grown wA3 hg3 (fun e=>by have:=Option.some.inj e;omega))|((with_reducible refine wN 25 (.tmp 22) (.tmp 21) w.heap.size 9 (.slice mo3 n.mat.length mc3) n ⟨lo0,lc0,vo1,vc1,no2,nc2,mo3,mc3⟩ xA3 ?_);intro X3 vX3 hx3;have hne3hN2a:=blk_old hN2;have hne3hN1aba:=blk_old hN1ab;have hT3:∀ z,some X2.heap.size=some z->Typed (X2.alloc (.cells #[] 2)) z 2:=(fun z e=>by cases e;exact hgt3);have yb3:=gr_rb (gr_rb wb3 hg3 (by omega)) hx3 nl;have yR3:NdB X3 (w.heap.size+1) nd0 ns0:=VHas.grown (VHas.grown wR3 hg3 (fun e=>by have:=Option.some.inj e;omega)) hx3 (fun e=>by have:=Option.some.inj e;omega);have hN3:OwI X3 X2.heap.size mo3 mc3 n.mat:=GOwn.gr hO3 hx3 (ndT xA3) (by decide);have hS3:X2.heap.size+1<=X3.heap.size:=Nat.le_trans (by simp[World.size_alloc]) (Nat.le_trans hg3.size hx3.size);clear f0 f1 f2 f3 f4 f5 f6 f7 f8 f9;have hN0ababab:=(hN0ababa.gr hg3 hT3 (by decide)).gr hx3 (ndT xA3) (by decide);have hN1abab:=(hN1aba.apart hg3 (hne3hN1aba)).gr hx3 (ndT xA3) (by decide);have hN2ab:=(hN2a.apart hg3 (hne3hN2a)).gr hx3 (ndT xA3) (by decide);obtain⟨f0,f1,f2,f3,f4,f5,f6,f7,f8,f9⟩:=cN vX3)|((with_reducible refine wB 27 (.tmp 2) (.tmp 23) (w.heap.size+1) (ndL (n) (⟨lo0,lc0,vo1,vc1,no2,nc2,mo3,mc3⟩)) yR3 ?_);intro W9 hv9 hg9)|fail)
 obtain⟨q0,q1,q2,q3,q4,q5,q6,q7,q8,q9⟩:=cN hv9;refine bodyPost_ret (v:=ndV n ⟨lo0,lc0,vo1,vc1,no2,nc2,mo3,mc3⟩) (by simp[results,Tryz.results38,go_sem,q0,q1,q2,q3,q4,q5,q6,q7,q8,q9]) rfl ?_;refine⟨⟨lo0,lc0,vo1,vc1,no2,nc2,mo3,mc3⟩,rfl,?_,gr_rb yb3 hg9 (by omega)⟩;simp only[World.size_alloc] at *
 exact NdO.gr ⟨hN0ababab.from (by omega),hN1abab.from (by omega),hN2ab.from (by omega),hN3.from (by omega),fun b e q=>by have h1:=(hN1.at e).2;have h2:=(hN2.at q).1;omega,fun b e q=>by have h1:=(hN1.at e).2;have h2:=(hN3.at q).1;omega,fun b e q=>by have h1:=(hN2.at e).2;have h2:=(hN3.at q).1;omega⟩ hg9 (ndT yR3) (by decide) (by decide)
set_option maxRecDepth 100000 in
set_option maxHeartbeats 4000000 in
theorem nodeOk_any (n:Nd) (s:NdS) (hz:NdZ n s) (aL aE aO:Addr) (w:World) (hG:GlV w aL aE aO) (hM:NdM w n s):Calls Tryz.prog 12 #[ndV n s] w fun e w'=>e=.returned (.bool (nodeB n))/\RB w w':=by
 have hb:=RB.alloc w (.cells (ndL n s).toArray 27);have vA:=ndB_new w n s;replace hM:=hM.next hb;replace hG:=hG.next hb;go_enter Tryz.func12,Tryz.ntmps12
 go_wp2_with fail
 generalize (w.alloc _)=W at hb vA hM hG ⊢;have hd:RB W W.drew:=(Below.refl _ _).drew;replace hb:=RB.trans _ _ _ hb hd;replace vA:=vA.next hd;replace hM:=hM.next hd;replace hG:=hG.next hd;obtain⟨b5,qb5⟩:∃ b:Bool,b=(decide (1<=n.peers)):=⟨_,rfl⟩
 obtain⟨c3t,hc3t⟩:∃ c:Bool,c=(true&&((b5)==true)):=⟨_,rfl⟩
 obtain⟨b9,qb9⟩:∃ b:Bool,b=(decide (n.peers<=5)):=⟨_,rfl⟩
 obtain⟨b10,qb10⟩:∃ b:Bool,b=((b5&&b9)):=⟨_,rfl⟩
 obtain⟨c8t,hc8t⟩:∃ c:Bool,c=(true&&((b10)==true)):=⟨_,rfl⟩
 obtain⟨b15,qb15⟩:∃ b:Bool,b=(srvB n.peers n.id):=⟨_,rfl⟩
 obtain⟨b16,qb16⟩:∃ b:Bool,b=((b10&&b15)):=⟨_,rfl⟩
 obtain⟨c14t,hc14t⟩:∃ c:Bool,c=(true&&((b16)==true)):=⟨_,rfl⟩
 obtain⟨b20,qb20⟩:∃ b:Bool,b=(decide (0<=n.term)):=⟨_,rfl⟩
 obtain⟨b21,qb21⟩:∃ b:Bool,b=((b16&&b20)):=⟨_,rfl⟩
 obtain⟨c19t,hc19t⟩:∃ c:Bool,c=(true&&((b21)==true)):=⟨_,rfl⟩
 obtain⟨b25,qb25⟩:∃ b:Bool,b=(decide (n.term<=100000)):=⟨_,rfl⟩
 obtain⟨b26,qb26⟩:∃ b:Bool,b=((b21&&b25)):=⟨_,rfl⟩
 obtain⟨c24t,hc24t⟩:∃ c:Bool,c=(true&&((b26)==true)):=⟨_,rfl⟩
 obtain⟨b30,qb30⟩:∃ b:Bool,b=((n.vote==(-1))):=⟨_,rfl⟩
 obtain⟨c28f,hc28f⟩:∃ c:Bool,c=(c24t&&((b30)==false)):=⟨_,rfl⟩
 obtain⟨b35,qb35⟩:∃ b:Bool,b=(srvB n.peers n.vote):=⟨_,rfl⟩
 obtain⟨b36,qb36⟩:∃ b:Bool,b=((b30||b35)):=⟨_,rfl⟩
 obtain⟨b37,qb37⟩:∃ b:Bool,b=((b26&&b36)):=⟨_,rfl⟩
 obtain⟨c35t,hc35t⟩:∃ c:Bool,c=(true&&((b37)==true)):=⟨_,rfl⟩
 obtain⟨b43,qb43⟩:∃ b:Bool,b=(logL n.log&&decide (lastL n.log<=n.term)):=⟨_,rfl⟩
 obtain⟨b44,qb44⟩:∃ b:Bool,b=((b37&&b43)):=⟨_,rfl⟩
 obtain⟨c42t,hc42t⟩:∃ c:Bool,c=(true&&((b44)==true)):=⟨_,rfl⟩
 obtain⟨b48,qb48⟩:∃ b:Bool,b=(decide (0<=n.commit)):=⟨_,rfl⟩
 obtain⟨b49,qb49⟩:∃ b:Bool,b=((b44&&b48)):=⟨_,rfl⟩
 obtain⟨c47t,hc47t⟩:∃ c:Bool,c=(true&&((b49)==true)):=⟨_,rfl⟩
 obtain⟨b55,qb55⟩:∃ b:Bool,b=(decide (n.commit<=(n.log.length:Int))):=⟨_,rfl⟩
 obtain⟨b56,qb56⟩:∃ b:Bool,b=((b49&&b55)):=⟨_,rfl⟩
 obtain⟨c54t,hc54t⟩:∃ c:Bool,c=(true&&((b56)==true)):=⟨_,rfl⟩
 obtain⟨b59,qb59⟩:∃ b:Bool,b=(roleB n):=⟨_,rfl⟩
 obtain⟨b60,qb60⟩:∃ b:Bool,b=((b56&&b59)):=⟨_,rfl⟩
 refine region_all (by kernel_rfl) (by kernel_rfl) RB RB.refl RB.trans
  [isV (.pointer (some ⟨w.heap.size,1,none⟩)),isV (.int .i64 n.peers),isV (.bool b5),isV (.bool b5),isV (gv c3t (.pointer (some ⟨w.heap.size,1,none⟩))),isV (gv c3t (.int .i64 n.peers)),isV (gv c3t (.bool b9)),isV (.bool b10),isV (.bool b10),isV (gv c8t (ndV n s)),isV (gv c8t (.pointer (some ⟨w.heap.size,0,none⟩))),isV (gv c8t (.int .i64 n.id)),isV (gv c8t (.bool b15)),isV (.bool b16),isV (.bool b16),isV (gv c14t (.pointer (some ⟨w.heap.size,2,none⟩))),isV (gv c14t (.int .i64 n.term)),isV (gv c14t (.bool b20)),isV (.bool b21),isV (.bool b21),isV (gv c19t (.pointer (some ⟨w.heap.size,2,none⟩))),isV (gv c19t (.int .i64 n.term)),isV (gv c19t (.bool b25)),isV (.bool b26),isV (.bool b26),isV (gv c24t (.pointer (some ⟨w.heap.size,3,none⟩))),isV (gv c24t (.int .i64 n.vote)),isV (gv c24t (.bool b30)),isV (gv c24t (.bool b30)),isV (gv c28f (ndV n s)),isV (gv c28f (.pointer (some ⟨w.heap.size,3,none⟩))),isV (gv c28f (.int .i64 n.vote)),isV (gv c28f (.bool b35)),isV (gv c24t (.bool b36)),isV (.bool b37),isV (.bool b37),isV (gv c35t (.pointer (some ⟨w.heap.size,4,none⟩))),isV (gv c35t (.slice s.lo n.log.length s.lc)),isV (gv c35t (.pointer (some ⟨w.heap.size,2,none⟩))),isV (gv c35t (.int .i64 n.term)),isV (gv c35t (.bool b43)),isV (.bool b44),isV (.bool b44),isV (gv c42t (.pointer (some ⟨w.heap.size,6,none⟩))),isV (gv c42t (.int .i64 n.commit)),isV (gv c42t (.bool b48)),isV (.bool b49),isV (.bool b49),isV (gv c47t (.pointer (some ⟨w.heap.size,6,none⟩))),isV (gv c47t (.int .i64 n.commit)),isV (gv c47t (ndV n s)),isV (gv c47t (.int .i64 (n.log.length:Int))),isV (gv c47t (.bool b55)),isV (.bool b56),isV (.bool b56),isV (gv c54t (ndV n s)),isV (gv c54t (.bool b59)),isV (.bool b60),isV (.bool b60)]
  ⟨isV.rb,isV.rb,isV.rb,isV.rb,isV.rb,isV.rb,isV.rb,isV.rb,isV.rb,isV.rb,isV.rb,isV.rb,isV.rb,isV.rb,isV.rb,isV.rb,isV.rb,isV.rb,isV.rb,isV.rb,isV.rb,isV.rb,isV.rb,isV.rb,isV.rb,isV.rb,isV.rb,isV.rb,isV.rb,isV.rb,isV.rb,isV.rb,isV.rb,isV.rb,isV.rb,isV.rb,isV.rb,isV.rb,isV.rb,isV.rb,isV.rb,isV.rb,isV.rb,isV.rb,isV.rb,isV.rb,isV.rb,isV.rb,isV.rb,isV.rb,isV.rb,isV.rb,isV.rb,isV.rb,isV.rb,isV.rb,isV.rb,isV.rb,isV.rb,trivial⟩ rfl ?_ ?_
 ·refine⟨?_,?_,?_,?_,?_,?_,?_,?_,?_,?_,?_,?_,?_,?_,?_,?_,?_,?_,?_,?_,?_,?_,?_,?_,?_,?_,?_,?_,?_,?_,?_,?_,?_,?_,?_,?_,?_,?_,?_,?_,?_,?_,?_,?_,?_,?_,?_,?_,?_,?_,?_,?_,?_,?_,?_,?_,?_,?_,?_,trivial⟩
  ·exact oq rfl fun ev w' v hR E pr=>by
    have e1:=E.was 1 _;simp[go_sem,e1]
  ·exact oq rfl fun ev w' v hR E pr=>by
    have e1:=E.eq pr 0 3;have cc:=(vA.next hR).cell (j:=1) (by omega);simp[lf]at cc;simp[go_sem,cc,e1]
  ·exact oq rfl fun ev w' v hR E pr=>by
    have e1:=E.eq pr 1 4;simp[go_sem,E.con,qb5,e1]
  ·exact oq rfl fun ev w' v hR E pr=>by
    have e1:=E.eq pr 2 5;simp[go_sem,e1]
  ·exact OpOk.gd RB.refl 3 6 true true (b5) (fun _ _ h=>h) c3t hc3t _ (fun _=>rfl) fun ev w' v hR E pr hC=>by
    have e1:=E.was 1 _;simp[go_sem,gv,hC,hc3t,e1]
  ·exact OpOk.gd RB.refl 3 6 true true (b5) (fun _ _ h=>h) c3t hc3t _ (fun _=>rfl) fun ev w' v hR E pr hC=>by
    have e1:=E.eq pr 4 7;have cc:=(vA.next hR).cell (j:=1) (by omega);simp[lf]at cc;simp[go_sem,gv,hC,hc3t,cc,e1]
  ·exact OpOk.gd RB.refl 3 6 true true (b5) (fun _ _ h=>h) c3t hc3t _ (fun _=>rfl) fun ev w' v hR E pr hC=>by
    have e1:=E.eq pr 5 8;simp[go_sem,gv,hC,hc3t,E.con,qb9,e1]
  ·exact oq rfl fun ev w' v hR E pr=>by
    have e1:=E.eq pr 3 6;have e2:=E.eq pr 6 9;rcases Bool.eq_false_or_eq_true (b5) with hs|hs<;>simp[go_sem,E.con,qb10,gv,hc3t,e1,e2,hs]
  ·exact oq rfl fun ev w' v hR E pr=>by
    have e1:=E.eq pr 7 10;simp[go_sem,e1]
  ·exact OpOk.gd RB.refl 8 11 true true (b10) (fun _ _ h=>h) c8t hc8t _ (fun _=>rfl) fun ev w' v hR E pr hC=>by
    have e1:=E.was 1 _;exact exec_nd rfl e1 (vA.next hR)
  ·exact OpOk.gd RB.refl 8 11 true true (b10) (fun _ _ h=>h) c8t hc8t _ (fun _=>rfl) fun ev w' v hR E pr hC=>by
    have e1:=E.was 1 _;simp[go_sem,gv,hC,hc8t,e1]
  ·exact OpOk.gd RB.refl 8 11 true true (b10) (fun _ _ h=>h) c8t hc8t _ (fun _=>rfl) fun ev w' v hR E pr hC=>by
    have e1:=E.eq pr 10 13;have cc:=(vA.next hR).cell (j:=0) (by omega);simp[lf]at cc;simp[go_sem,gv,hC,hc8t,cc,e1]
  ·exact OpOk.gdCall 8 11 true true (b10) (fun _ _ h=>h) c8t hc8t _ (fun _=>rfl) fun ev w' v hR E pr hC=>by
    have e1:=E.eq pr 9 12;have e2:=E.eq pr 11 14;rw[hC]at e1;rw[hC]at e2;refine⟨44,#[ndV n s,.int .i64 n.id],by simp[go_sem,gv,e1,e2,E.fn],?_⟩;rw[qb15];exact isServer_any n s n.id _
  ·exact oq rfl fun ev w' v hR E pr=>by
    have e1:=E.eq pr 8 11;have e2:=E.eq pr 12 15;rcases Bool.eq_false_or_eq_true (b10) with hs|hs<;>simp[go_sem,E.con,qb16,gv,hc8t,e1,e2,hs]
  ·exact oq rfl fun ev w' v hR E pr=>by
    have e1:=E.eq pr 13 16;simp[go_sem,e1]
  ·exact OpOk.gd RB.refl 14 17 true true (b16) (fun _ _ h=>h) c14t hc14t _ (fun _=>rfl) fun ev w' v hR E pr hC=>by
    have e1:=E.was 1 _;simp[go_sem,gv,hC,hc14t,e1]
  ·exact OpOk.gd RB.refl 14 17 true true (b16) (fun _ _ h=>h) c14t hc14t _ (fun _=>rfl) fun ev w' v hR E pr hC=>by
    have e1:=E.eq pr 15 18;have cc:=(vA.next hR).cell (j:=2) (by omega);simp[lf]at cc;simp[go_sem,gv,hC,hc14t,cc,e1]
  ·exact OpOk.gd RB.refl 14 17 true true (b16) (fun _ _ h=>h) c14t hc14t _ (fun _=>rfl) fun ev w' v hR E pr hC=>by
    have e1:=E.eq pr 16 19;simp[go_sem,gv,hC,hc14t,E.con,qb20,e1]
  ·exact oq rfl fun ev w' v hR E pr=>by
    have e1:=E.eq pr 14 17;have e2:=E.eq pr 17 20;rcases Bool.eq_false_or_eq_true (b16) with hs|hs<;>simp[go_sem,E.con,qb21,gv,hc14t,e1,e2,hs]
  ·exact oq rfl fun ev w' v hR E pr=>by
    have e1:=E.eq pr 18 21;simp[go_sem,e1]
  ·exact OpOk.gd RB.refl 19 22 true true (b21) (fun _ _ h=>h) c19t hc19t _ (fun _=>rfl) fun ev w' v hR E pr hC=>by
    have e1:=E.was 1 _;simp[go_sem,gv,hC,hc19t,e1]
  ·exact OpOk.gd RB.refl 19 22 true true (b21) (fun _ _ h=>h) c19t hc19t _ (fun _=>rfl) fun ev w' v hR E pr hC=>by
    have e1:=E.eq pr 20 23;have cc:=(vA.next hR).cell (j:=2) (by omega);simp[lf]at cc;simp[go_sem,gv,hC,hc19t,cc,e1]
  ·exact OpOk.gd RB.refl 19 22 true true (b21) (fun _ _ h=>h) c19t hc19t _ (fun _=>rfl) fun ev w' v hR E pr hC=>by
    have e1:=E.eq pr 21 24;simp[go_sem,gv,hC,hc19t,E.con,qb25,e1]
  ·exact oq rfl fun ev w' v hR E pr=>by
    have e1:=E.eq pr 19 22;have e2:=E.eq pr 22 25;rcases Bool.eq_false_or_eq_true (b21) with hs|hs<;>simp[go_sem,E.con,qb26,gv,hc19t,e1,e2,hs]
  ·exact oq rfl fun ev w' v hR E pr=>by
    have e1:=E.eq pr 23 26;simp[go_sem,e1]
  ·exact OpOk.gd RB.refl 24 27 true true (b26) (fun _ _ h=>h) c24t hc24t _ (fun _=>rfl) fun ev w' v hR E pr hC=>by
    have e1:=E.was 1 _;simp[go_sem,gv,hC,hc24t,e1]
  ·exact OpOk.gd RB.refl 24 27 true true (b26) (fun _ _ h=>h) c24t hc24t _ (fun _=>rfl) fun ev w' v hR E pr hC=>by
    have e1:=E.eq pr 25 28;have cc:=(vA.next hR).cell (j:=3) (by omega);simp[lf]at cc;simp[go_sem,gv,hC,hc24t,cc,e1]
  ·exact OpOk.gd RB.refl 24 27 true true (b26) (fun _ _ h=>h) c24t hc24t _ (fun _=>rfl) fun ev w' v hR E pr hC=>by
    have e1:=E.eq pr 26 29;simp[go_sem,gv,hC,hc24t,E.con,qb30,e1]
  ·exact OpOk.gd RB.refl 24 27 true true (b26) (fun _ _ h=>h) c24t hc24t _ (fun _=>rfl) fun ev w' v hR E pr hC=>by
    have e1:=E.eq pr 27 30;simp[go_sem,gv,hC,hc24t,e1]
  ·exact OpOk.gd RB.refl 28 31 false c24t (b30) (fun _ _ h=>h) c28f hc28f _ (fun _=>rfl) fun ev w' v hR E pr hC=>by
    have e1:=E.was 1 _;exact exec_nd rfl e1 (vA.next hR)
  ·exact OpOk.gd RB.refl 28 31 false c24t (b30) (fun _ _ h=>h) c28f hc28f _ (fun _=>rfl) fun ev w' v hR E pr hC=>by
    have e1:=E.was 1 _;simp[go_sem,gv,hC,hc28f,e1]
  ·exact OpOk.gd RB.refl 28 31 false c24t (b30) (fun _ _ h=>h) c28f hc28f _ (fun _=>rfl) fun ev w' v hR E pr hC=>by
    have e1:=E.eq pr 30 33;have cc:=(vA.next hR).cell (j:=3) (by omega);simp[lf]at cc;simp[go_sem,gv,hC,hc28f,cc,e1]
  ·exact OpOk.gdCall 28 31 false c24t (b30) (fun _ _ h=>h) c28f hc28f _ (fun _=>rfl) fun ev w' v hR E pr hC=>by
    have e1:=E.eq pr 29 32;have e2:=E.eq pr 31 34;rw[hC]at e1;rw[hC]at e2;refine⟨44,#[ndV n s,.int .i64 n.vote],by simp[go_sem,gv,e1,e2,E.fn],?_⟩;rw[qb35];exact isServer_any n s n.vote _
  ·exact OpOk.gd RB.refl 24 27 true true (b26) (fun _ _ h=>h) c24t hc24t _ (fun _=>rfl) fun ev w' v hR E pr hC=>by
    have e1:=E.eq pr 28 31;have e2:=E.eq pr 32 35;rcases Bool.eq_false_or_eq_true (b30) with hs|hs<;>simp[go_sem,gv,hC,hc24t,E.con,qb36,gv,hc28f,e1,e2,hs]
  ·exact oq rfl fun ev w' v hR E pr=>by
    have e1:=E.eq pr 24 27;have e2:=E.eq pr 33 36;rcases Bool.eq_false_or_eq_true (b26) with hs|hs<;>simp[go_sem,E.con,qb37,gv,hc24t,e1,e2,hs]
  ·exact oq rfl fun ev w' v hR E pr=>by
    have e1:=E.eq pr 34 37;simp[go_sem,e1]
  ·exact OpOk.gd RB.refl 35 38 true true (b37) (fun _ _ h=>h) c35t hc35t _ (fun _=>rfl) fun ev w' v hR E pr hC=>by
    have e1:=E.was 1 _;simp[go_sem,gv,hC,hc35t,e1]
  ·exact OpOk.gd RB.refl 35 38 true true (b37) (fun _ _ h=>h) c35t hc35t _ (fun _=>rfl) fun ev w' v hR E pr hC=>by
    have e1:=E.eq pr 36 39;have cc:=(vA.next hR).cell (j:=4) (by omega);simp[lf]at cc;simp[go_sem,gv,hC,hc35t,cc,e1]
  ·exact OpOk.gd RB.refl 35 38 true true (b37) (fun _ _ h=>h) c35t hc35t _ (fun _=>rfl) fun ev w' v hR E pr hC=>by
    have e1:=E.was 1 _;simp[go_sem,gv,hC,hc35t,e1]
  ·exact OpOk.gd RB.refl 35 38 true true (b37) (fun _ _ h=>h) c35t hc35t _ (fun _=>rfl) fun ev w' v hR E pr hC=>by
    have e1:=E.eq pr 38 41;have cc:=(vA.next hR).cell (j:=2) (by omega);simp[lf]at cc;simp[go_sem,gv,hC,hc35t,cc,e1]
  ·exact OpOk.gdCall 35 38 true true (b37) (fun _ _ h=>h) c35t hc35t _ (fun _=>rfl) fun ev w' v hR E pr hC=>by
    have e1:=E.eq pr 37 40;have e2:=E.eq pr 39 42;rw[hC]at e1;rw[hC]at e2;refine⟨45,#[.slice s.lo n.log.length s.lc,.int .i64 n.term],by simp[go_sem,gv,e1,e2,E.fn],?_⟩;rw[qb43];exact isLogUpTo_any s.lo s.lc n.log n.term aL aE aO hz.l hz.tx _ (hG.next hR) (hM.next hR).l
  ·exact oq rfl fun ev w' v hR E pr=>by
    have e1:=E.eq pr 35 38;have e2:=E.eq pr 40 43;rcases Bool.eq_false_or_eq_true (b37) with hs|hs<;>simp[go_sem,E.con,qb44,gv,hc35t,e1,e2,hs]
  ·exact oq rfl fun ev w' v hR E pr=>by
    have e1:=E.eq pr 41 44;simp[go_sem,e1]
  ·exact OpOk.gd RB.refl 42 45 true true (b44) (fun _ _ h=>h) c42t hc42t _ (fun _=>rfl) fun ev w' v hR E pr hC=>by
    have e1:=E.was 1 _;simp[go_sem,gv,hC,hc42t,e1]
  ·exact OpOk.gd RB.refl 42 45 true true (b44) (fun _ _ h=>h) c42t hc42t _ (fun _=>rfl) fun ev w' v hR E pr hC=>by
    have e1:=E.eq pr 43 46;have cc:=(vA.next hR).cell (j:=6) (by omega);simp[lf]at cc;simp[go_sem,gv,hC,hc42t,cc,e1]
  ·exact OpOk.gd RB.refl 42 45 true true (b44) (fun _ _ h=>h) c42t hc42t _ (fun _=>rfl) fun ev w' v hR E pr hC=>by
    have e1:=E.eq pr 44 47;simp[go_sem,gv,hC,hc42t,E.con,qb48,e1]
  ·exact oq rfl fun ev w' v hR E pr=>by
    have e1:=E.eq pr 42 45;have e2:=E.eq pr 45 48;rcases Bool.eq_false_or_eq_true (b44) with hs|hs<;>simp[go_sem,E.con,qb49,gv,hc42t,e1,e2,hs]
  ·exact oq rfl fun ev w' v hR E pr=>by
    have e1:=E.eq pr 46 49;simp[go_sem,e1]
  ·exact OpOk.gd RB.refl 47 50 true true (b49) (fun _ _ h=>h) c47t hc47t _ (fun _=>rfl) fun ev w' v hR E pr hC=>by
    have e1:=E.was 1 _;simp[go_sem,gv,hC,hc47t,e1]
  ·exact OpOk.gd RB.refl 47 50 true true (b49) (fun _ _ h=>h) c47t hc47t _ (fun _=>rfl) fun ev w' v hR E pr hC=>by
    have e1:=E.eq pr 48 51;have cc:=(vA.next hR).cell (j:=6) (by omega);simp[lf]at cc;simp[go_sem,gv,hC,hc47t,cc,e1]
  ·exact OpOk.gd RB.refl 47 50 true true (b49) (fun _ _ h=>h) c47t hc47t _ (fun _=>rfl) fun ev w' v hR E pr hC=>by
    have e1:=E.was 1 _;exact exec_nd rfl e1 (vA.next hR)
  ·exact OpOk.gdCall 47 50 true true (b49) (fun _ _ h=>h) c47t hc47t _ (fun _=>rfl) fun ev w' v hR E pr hC=>by
    have e1:=E.eq pr 50 53;rw[hC]at e1;refine⟨46,#[ndV n s],by simp[go_sem,gv,e1,E.fn],?_⟩;exact endOf_any n s hz.l _
  ·exact OpOk.gd RB.refl 47 50 true true (b49) (fun _ _ h=>h) c47t hc47t _ (fun _=>rfl) fun ev w' v hR E pr hC=>by
    have e1:=E.eq pr 49 52;have e2:=E.eq pr 51 54;simp[go_sem,gv,hC,hc47t,qb55,e1,e2]
  ·exact oq rfl fun ev w' v hR E pr=>by
    have e1:=E.eq pr 47 50;have e2:=E.eq pr 52 55;rcases Bool.eq_false_or_eq_true (b49) with hs|hs<;>simp[go_sem,E.con,qb56,gv,hc47t,e1,e2,hs]
  ·exact oq rfl fun ev w' v hR E pr=>by
    have e1:=E.eq pr 53 56;simp[go_sem,e1]
  ·exact OpOk.gd RB.refl 54 57 true true (b56) (fun _ _ h=>h) c54t hc54t _ (fun _=>rfl) fun ev w' v hR E pr hC=>by
    have e1:=E.was 1 _;exact exec_nd rfl e1 (vA.next hR)
  ·exact OpOk.gdCall 54 57 true true (b56) (fun _ _ h=>h) c54t hc54t _ (fun _=>rfl) fun ev w' v hR E pr hC=>by
    have e1:=E.eq pr 55 58;rw[hC]at e1;refine⟨47,#[ndV n s],by simp[go_sem,gv,e1,E.fn],?_⟩;rw[qb59];exact roleOk_any n s hz (by simp[hc54t,qb5,qb9,qb10,qb15,qb16,qb20,qb21,qb25,qb26,qb30,qb35,qb36,qb37,qb43,qb44,qb48,qb49,qb55,qb56]at hC;omega) (by simp[hc54t,qb5,qb9,qb10,qb15,qb16,qb20,qb21,qb25,qb26,qb30,qb35,qb36,qb37,qb43,qb44,qb48,qb49,qb55,qb56]at hC;omega) _ (hM.next hR)
  ·exact oq rfl fun ev w' v hR E pr=>by
    have e1:=E.eq pr 54 57;have e2:=E.eq pr 56 59;rcases Bool.eq_false_or_eq_true (b56) with hs|hs<;>simp[go_sem,E.con,qb60,gv,hc54t,e1,e2,hs]
  ·exact oq rfl fun ev w' v hR E pr=>by
    have e1:=E.eq pr 57 60;simp[go_sem,e1]
 ·intro v w' hR hp
  obtain⟨_,_,_,_,_,_,_,_,_,_,_,_,_,_,_,_,_,_,_,_,_,_,_,_,_,_,_,_,_,_,_,_,_,_,_,_,_,_,_,_,_,_,_,_,_,_,_,_,_,_,_,_,_,_,_,_,_,_,p58,_⟩:=hp;replace p58:v 58=.bool b60:=p58;simp only[putL,Nat.zero_add,Nat.reduceAdd,p58,Act.put,List.setIfInBounds_toArray,List.set_cons_zero,List.set_cons_succ];go_wp2;go_ret;refine⟨?_,RB.trans _ _ _ hb hR⟩
  have e:b60=nodeB n:=by
   simp only[qb5,qb9,qb10,qb15,qb16,qb20,qb21,qb25,qb26,qb30,qb35,qb36,qb37,qb43,qb44,qb48,qb49,qb55,qb56,qb59,qb60,nodeB];simp only[Bool.decide_and,Bool.and_assoc]
  rw[<-e];rfl
def forB (n:Nd) (m:Ms):Bool:=(m.to==n.id)&&((m.frm != n.id)&&(srvB n.peers m.frm&&(decide (1<=m.kind)&&(decide (m.kind<=4)&&(decide (1<=m.term)&&(decide (m.term<=100000)&&(logL m.ents&&decide (lastL m.ents<=m.term))))))))
theorem gr_of_rb' {w w':World} {b:Option Nat} (h:RB w w'):w.grownBy w' b:=⟨h.os,h.tape,h.output,h.size,fun k hk _=>h.block k hk⟩
theorem specMajority_any (n:Nd) (s:NdS) (hz:n.votes.length<=1048576) (w:World):Calls Tryz.prog 53 #[ndV n s] w fun e w'=>e=.returned (.bool (majB n.peers n.votes.length))/\RB w w':=by
 have hb:=RB.alloc w (.cells (ndL n s).toArray 27);have vA:=ndB_new w n s;obtain⟨c0,c1,c2,c3,c4,c5,c6,c7,c8,c9⟩:=vA.c10;simp[lf]at c0 c1 c2 c3 c4 c5 c6 c7 c8 c9;have hw:IntKind.i64.wrap (2*(n.votes.length:Int))=2*(n.votes.length:Int):=by rw[IntKind.wrap_i64];omega
 go_enter Tryz.func53,Tryz.ntmps53
 by_cases h:n.peers<2*(n.votes.length:Int)
 ·have e1:majB n.peers n.votes.length=true:=by simp[majB,h]
  go_wp2;go_ret;exact⟨by first|rfl|(rw[e1];rfl),hb⟩
 ·have e1:majB n.peers n.votes.length=false:=by simp only[majB,decide_eq_false_iff_not];exact h
  go_wp2;go_ret;exact⟨by first|rfl|(rw[e1];rfl),hb⟩
theorem ndO_fol3 {w:World} {base:Nat} {n:Nd} {lo:Option Addr} {lc b1 b2 b3:Nat} (hl:OwE w base lo lc n.log) (h1:OwI w base (some ⟨b1,0,none⟩) 0 []) (h2:OwI w base (some ⟨b2,0,none⟩) 0 []) (h3:OwI w base (some ⟨b3,0,none⟩) 0 []) (e1:b1≠b2) (e2:b1≠b3) (e3:b2≠b3):NdO w base (folN n) ⟨lo,lc,some ⟨b1,0,none⟩,0,some ⟨b2,0,none⟩,0,some ⟨b3,0,none⟩,0⟩:=
 ⟨hl,h1,h2,h3,fun b e q=>e1 ((Option.some.inj e).trans (Option.some.inj q).symm),fun b e q=>e2 ((Option.some.inj e).trans (Option.some.inj q).symm),fun b e q=>e3 ((Option.some.inj e).trans (Option.some.inj q).symm)⟩
def fo1 (n:Nd):Nd:=⟨n.id,n.peers,n.term,n.vote,n.log,1,n.commit,n.votes,n.next,n.mat⟩
def fo2 (n:Nd):Nd:=⟨n.id,n.peers,n.term,n.vote,n.log,1,n.commit,[],n.next,n.mat⟩
def fo3 (n:Nd):Nd:=⟨n.id,n.peers,n.term,n.vote,n.log,1,n.commit,[],[],n.mat⟩
set_option maxRecDepth 100000 in
set_option maxHeartbeats 4000000 in
theorem specFollow_any (n:Nd) (s:NdS) (b base:Nat) (w:World) (hbs:base<=w.heap.size) (vB:NdB w b n s) (hO:NdO w base n s):Calls Tryz.prog 79 #[.pointer (some ⟨b,0,none⟩)] w fun e w'=>e=.returned (.tuple #[])/\∃ s',NdB w' b (folN n) s'/\NdO w' base (folN n) s'/\w.grownBy w' (some b):=by
 obtain⟨lo,lc,vo,vc,no,nc,mo,mc⟩:=s;obtain⟨f0,f1,f2,f3,f4,f5,f6,f7,f8,f9⟩:=cN vB;have hlt:=vB.lt;go_enter Tryz.func79,Tryz.ntmps79
 go_wp2_with (first|((with_reducible refine wN 2 (.tmp 4) (.const (.int .i64 1)) (b) 5 (.int .i64 1) (fo1 n) (⟨lo,lc,vo,vc,no,nc,mo,mc⟩) vB ?_);intro Wa va ga;clear f0 f1 f2 f3 f4 f5 f6 f7 f8 f9;have hha:=RB.alloc Wa (.cells #[] 2);have va2:NdB (Wa.alloc (.cells #[] 2)) b (fo1 n) ⟨lo,lc,vo,vc,no,nc,mo,mc⟩:=VHas.next va hha;obtain⟨f0,f1,f2,f3,f4,f5,f6,f7,f8,f9⟩:=VHas.c10 va2;simp[lf,fo1]at f0 f1 f2 f3 f4 f5 f6 f7 f8 f9)|((with_reducible refine wN 25 (.tmp 8) (.tmp 6) (b) 7 (.slice (some ⟨Wa.heap.size,0,none⟩) 0 0) (fo2 n) (⟨lo,lc,some ⟨Wa.heap.size,0,none⟩,0,no,nc,mo,mc⟩) va2 ?_);intro Wb vb gb;clear f0 f1 f2 f3 f4 f5 f6 f7 f8 f9;have hhb:=RB.alloc Wb (.cells #[] 2);have vb2:NdB (Wb.alloc (.cells #[] 2)) b (fo2 n) ⟨lo,lc,some ⟨Wa.heap.size,0,none⟩,0,no,nc,mo,mc⟩:=VHas.next vb hhb;obtain⟨f0,f1,f2,f3,f4,f5,f6,f7,f8,f9⟩:=VHas.c10 vb2;simp[lf,fo2]at f0 f1 f2 f3 f4 f5 f6 f7 f8 f9)|((with_reducible refine wN 25 (.tmp 12) (.tmp 10) (b) 8 (.slice (some ⟨Wb.heap.size,0,none⟩) 0 0) (fo3 n) (⟨lo,lc,some ⟨Wa.heap.size,0,none⟩,0,some ⟨Wb.heap.size,0,none⟩,0,mo,mc⟩) vb2 ?_);intro Wc vc gc;clear f0 f1 f2 f3 f4 f5 f6 f7 f8 f9;have hhc:=RB.alloc Wc (.cells #[] 2);have vc2:NdB (Wc.alloc (.cells #[] 2)) b (fo3 n) ⟨lo,lc,some ⟨Wa.heap.size,0,none⟩,0,some ⟨Wb.heap.size,0,none⟩,0,mo,mc⟩:=VHas.next vc hhc;obtain⟨f0,f1,f2,f3,f4,f5,f6,f7,f8,f9⟩:=VHas.c10 vc2;simp[lf,fo3]at f0 f1 f2 f3 f4 f5 f6 f7 f8 f9)|((with_reducible refine wN 25 (.tmp 16) (.tmp 14) (b) 9 (.slice (some ⟨Wc.heap.size,0,none⟩) 0 0) (folN n) (⟨lo,lc,some ⟨Wa.heap.size,0,none⟩,0,some ⟨Wb.heap.size,0,none⟩,0,some ⟨Wc.heap.size,0,none⟩,0⟩) vc2 ?_);intro Wd vd gd)|fail)
 simp[bodyPost,results,Tryz.results79,go_sem];have sa:=ga.size;have sb:=gb.size;have sc:=gc.size;simp only[World.size_alloc]at sb sc;have e1:OwI (Wa.alloc (.cells #[] 2)) Wa.heap.size (some ⟨Wa.heap.size,0,none⟩) 0 []:=GOwn.empty Wa 2 1 _;have e2:OwI (Wb.alloc (.cells #[] 2)) Wb.heap.size (some ⟨Wb.heap.size,0,none⟩) 0 []:=GOwn.empty Wb 2 1 _;have e3:OwI (Wc.alloc (.cells #[] 2)) Wc.heap.size (some ⟨Wc.heap.size,0,none⟩) 0 []:=GOwn.empty Wc 2 1 _;have o1:=(((((OwI.gr e1 gb (ndT va2) (by decide)).next hhb).gr gc (ndT vb2) (by decide)).next hhc).gr gd (ndT vc2) (by decide)).from (show base ≤ _ by omega)
 have o2:=(((OwI.gr e2 gc (ndT vb2) (by decide)).next hhc).gr gd (ndT vc2) (by decide)).from (show base ≤ _ by omega)
 have o3:=(OwI.gr e3 gd (ndT vc2) (by decide)).from (show base ≤ _ by omega)
 have ol:=((((((OwE.gr hO.l ga (ndT vB) (by decide)).next hha).gr gb (ndT va2) (by decide)).next hhb).gr gc (ndT vb2) (by decide)).next hhc).gr gd (ndT vc2) (by decide);exact⟨_,vd,ndO_fol3 ol o1 o2 o3 (by omega) (by omega) (by omega),(((((ga.trans (gr_of_rb' hha)).trans gb).trans (gr_of_rb' hhb)).trans gc).trans (gr_of_rb' hhc)).trans gd⟩
set_option maxRecDepth 100000 in
set_option maxHeartbeats 4000000 in
theorem specTold_any (n:Nd) (s:NdS) (m:Ms) (eo:Option Addr) (ec:Nat) (hp:1<=n.peers/\n.peers<=5) (hml:m.ents.length<=1048576) (hmx:∀ k,k<m.ents.length->(xOf m.ents k).size<=1048576) (w:World) (hr:LRow w 47 eo (elc m.ents)):Calls Tryz.prog 78 #[ndV n s,msV m eo ec] w fun e w'=>e=.returned (.bool (forB n m))/\RB w w':=by
 have hb:=RB.trans _ _ _ (RB.alloc w (.cells (ndL n s).toArray 27)) (RB.alloc _ (.cells (msL m eo ec).toArray 29));have vA:NdB _ w.heap.size n s:=(ndB_new w n s).next (RB.alloc _ (.cells (msL m eo ec).toArray 29));have vM:=msB_new (w.alloc (.cells (ndL n s).toArray 27)) m eo ec;rw[World.size_alloc]at vM;replace hr:=hr.next hb;go_enter Tryz.func78,Tryz.ntmps78;refine wp_seq_h' fun K0 hK0=>?_
 go_wp2;refine hK0.out _ _ ?_;clear hK0;refine wp_seq_h' fun K1 hK1=>?_
 generalize ((w.alloc _).alloc _)=W at hb vA vM hr ⊢;have hd:RB W W.drew:=(Below.refl _ _).drew;replace hb:=RB.trans _ _ _ hb hd;replace vA:NdB W.drew w.heap.size n s:=VHas.next vA hd;replace vM:MsB W.drew (w.heap.size+1) m eo ec:=VHas.next vM hd;replace hr:=hr.next hd;clear hd;obtain⟨b9,qb9⟩:∃ b:Bool,b=((m.to==n.id)):=⟨_,rfl⟩
 obtain⟨c5t,hc5t⟩:∃ c:Bool,c=(true&&((b9)==true)):=⟨_,rfl⟩
 obtain⟨b15,qb15⟩:∃ b:Bool,b=((m.frm != n.id)):=⟨_,rfl⟩
 obtain⟨b16,qb16⟩:∃ b:Bool,b=((b9&&b15)):=⟨_,rfl⟩
 obtain⟨c12t,hc12t⟩:∃ c:Bool,c=(true&&((b16)==true)):=⟨_,rfl⟩
 obtain⟨b22,qb22⟩:∃ b:Bool,b=(srvB (n.peers) (m.frm)):=⟨_,rfl⟩
 obtain⟨b23,qb23⟩:∃ b:Bool,b=((b16&&b22)):=⟨_,rfl⟩
 obtain⟨c19t,hc19t⟩:∃ c:Bool,c=(true&&((b23)==true)):=⟨_,rfl⟩
 obtain⟨b27,qb27⟩:∃ b:Bool,b=(inB (m.kind) (1) (4)):=⟨_,rfl⟩
 obtain⟨b28,qb28⟩:∃ b:Bool,b=((b23&&b27)):=⟨_,rfl⟩
 obtain⟨c24t,hc24t⟩:∃ c:Bool,c=(true&&((b28)==true)):=⟨_,rfl⟩
 obtain⟨b32,qb32⟩:∃ b:Bool,b=(inB (m.term) (1) (100000)):=⟨_,rfl⟩
 obtain⟨b33,qb33⟩:∃ b:Bool,b=((b28&&b32)):=⟨_,rfl⟩
 obtain⟨c29t,hc29t⟩:∃ c:Bool,c=(true&&((b33)==true)):=⟨_,rfl⟩
 obtain⟨b37,qb37⟩:∃ b:Bool,b=(logL m.ents):=⟨_,rfl⟩
 obtain⟨b38,qb38⟩:∃ b:Bool,b=((b33&&b37)):=⟨_,rfl⟩
 obtain⟨c34t,hc34t⟩:∃ c:Bool,c=(true&&((b38)==true)):=⟨_,rfl⟩
 obtain⟨b45,qb45⟩:∃ b:Bool,b=(decide ((lastL m.ents)<=m.term)):=⟨_,rfl⟩
 obtain⟨b46,qb46⟩:∃ b:Bool,b=((b38&&b45)):=⟨_,rfl⟩
 refine region_all (by kernel_rfl) (by kernel_rfl) RB RB.refl RB.trans
  [isV (.pointer (some ⟨w.heap.size+1,3,none⟩)),isV (.int .i64 m.to),isV (.pointer (some ⟨w.heap.size,0,none⟩)),isV (.int .i64 n.id),isV (.bool b9),isV (.bool b9),isV (gv c5t (.pointer (some ⟨w.heap.size+1,2,none⟩))),isV (gv c5t (.int .i64 m.frm)),isV (gv c5t (.pointer (some ⟨w.heap.size,0,none⟩))),isV (gv c5t (.int .i64 n.id)),isV (gv c5t (.bool b15)),isV (.bool b16),isV (.bool b16),isV (gv c12t (.pointer (some ⟨w.heap.size+1,2,none⟩))),isV (gv c12t (.int .i64 m.frm)),isV (gv c12t (.pointer (some ⟨w.heap.size,1,none⟩))),isV (gv c12t (.int .i64 n.peers)),isV (gv c12t (.bool b22)),isV (.bool b23),isV (.bool b23),isV (gv c19t (.pointer (some ⟨w.heap.size+1,0,none⟩))),isV (gv c19t (.int .i64 m.kind)),isV (gv c19t (.bool b27)),isV (.bool b28),isV (.bool b28),isV (gv c24t (.pointer (some ⟨w.heap.size+1,1,none⟩))),isV (gv c24t (.int .i64 m.term)),isV (gv c24t (.bool b32)),isV (.bool b33),isV (.bool b33),isV (gv c29t (.pointer (some ⟨w.heap.size+1,6,none⟩))),isV (gv c29t (.slice eo m.ents.length ec)),isV (gv c29t (.bool b37)),isV (.bool b38),isV (.bool b38),isV (gv c34t (.pointer (some ⟨w.heap.size+1,6,none⟩))),isV (gv c34t (.slice eo m.ents.length ec)),isV (gv c34t (.int .i64 (lastL m.ents))),isV (gv c34t (.pointer (some ⟨w.heap.size+1,1,none⟩))),isV (gv c34t (.int .i64 m.term)),isV (gv c34t (.bool b45)),isV (.bool b46),isV (.bool b46)]
  ⟨isV.rb,isV.rb,isV.rb,isV.rb,isV.rb,isV.rb,isV.rb,isV.rb,isV.rb,isV.rb,isV.rb,isV.rb,isV.rb,isV.rb,isV.rb,isV.rb,isV.rb,isV.rb,isV.rb,isV.rb,isV.rb,isV.rb,isV.rb,isV.rb,isV.rb,isV.rb,isV.rb,isV.rb,isV.rb,isV.rb,isV.rb,isV.rb,isV.rb,isV.rb,isV.rb,isV.rb,isV.rb,isV.rb,isV.rb,isV.rb,isV.rb,isV.rb,isV.rb,trivial⟩ rfl ?_ ?_
 ·refine⟨?_,?_,?_,?_,?_,?_,?_,?_,?_,?_,?_,?_,?_,?_,?_,?_,?_,?_,?_,?_,?_,?_,?_,?_,?_,?_,?_,?_,?_,?_,?_,?_,?_,?_,?_,?_,?_,?_,?_,?_,?_,?_,?_,trivial⟩
  ·exact oq rfl fun ev w' v hR E pr=>by
    have e1:=E.was 3 _;simp[go_sem,e1]
  ·exact oq rfl fun ev w' v hR E pr=>by
    have e1:=E.eq pr 0 5;have cc:=(vM.next hR).cell (j:=3) (by omega);simp[lf]at cc;simp[go_sem,cc,e1]
  ·exact oq rfl fun ev w' v hR E pr=>by
    have e1:=E.was 2 _;simp[go_sem,e1]
  ·exact oq rfl fun ev w' v hR E pr=>by
    have e1:=E.eq pr 2 7;have cc:=(vA.next hR).cell (j:=0) (by omega);simp[lf]at cc;simp[go_sem,cc,e1]
  ·exact oq rfl fun ev w' v hR E pr=>by
    have e1:=E.eq pr 1 6;have e2:=E.eq pr 3 8;simp[go_sem,qb9,e1,e2]
  ·exact oq rfl fun ev w' v hR E pr=>by
    have e1:=E.eq pr 4 9;simp[go_sem,e1]
  ·exact OpOk.gd RB.refl 5 10 true true (b9) (fun _ _ h=>h) c5t hc5t _ (fun _=>rfl) fun ev w' v hR E pr hC=>by
    have e1:=E.was 3 _;simp[go_sem,gv,hC,hc5t,e1]
  ·exact OpOk.gd RB.refl 5 10 true true (b9) (fun _ _ h=>h) c5t hc5t _ (fun _=>rfl) fun ev w' v hR E pr hC=>by
    have e1:=E.eq pr 6 11;have cc:=(vM.next hR).cell (j:=2) (by omega);simp[lf]at cc;simp[go_sem,gv,hC,hc5t,cc,e1]
  ·exact OpOk.gd RB.refl 5 10 true true (b9) (fun _ _ h=>h) c5t hc5t _ (fun _=>rfl) fun ev w' v hR E pr hC=>by
    have e1:=E.was 2 _;simp[go_sem,gv,hC,hc5t,e1]
  ·exact OpOk.gd RB.refl 5 10 true true (b9) (fun _ _ h=>h) c5t hc5t _ (fun _=>rfl) fun ev w' v hR E pr hC=>by
    have e1:=E.eq pr 8 13;have cc:=(vA.next hR).cell (j:=0) (by omega);simp[lf]at cc;simp[go_sem,gv,hC,hc5t,cc,e1]
  ·exact OpOk.gd RB.refl 5 10 true true (b9) (fun _ _ h=>h) c5t hc5t _ (fun _=>rfl) fun ev w' v hR E pr hC=>by
    have e1:=E.eq pr 7 12;have e2:=E.eq pr 9 14;simp[go_sem,gv,hC,hc5t,qb15,e1,e2]
  ·exact oq rfl fun ev w' v hR E pr=>by
    have e1:=E.eq pr 5 10;have e2:=E.eq pr 10 15;rcases Bool.eq_false_or_eq_true (b9) with hs|hs<;>simp[go_sem,E.con,qb16,gv,hc5t,e1,e2,hs]
  ·exact oq rfl fun ev w' v hR E pr=>by
    have e1:=E.eq pr 11 16;simp[go_sem,e1]
  ·exact OpOk.gd RB.refl 12 17 true true (b16) (fun _ _ h=>h) c12t hc12t _ (fun _=>rfl) fun ev w' v hR E pr hC=>by
    have e1:=E.was 3 _;simp[go_sem,gv,hC,hc12t,e1]
  ·exact OpOk.gd RB.refl 12 17 true true (b16) (fun _ _ h=>h) c12t hc12t _ (fun _=>rfl) fun ev w' v hR E pr hC=>by
    have e1:=E.eq pr 13 18;have cc:=(vM.next hR).cell (j:=2) (by omega);simp[lf]at cc;simp[go_sem,gv,hC,hc12t,cc,e1]
  ·exact OpOk.gd RB.refl 12 17 true true (b16) (fun _ _ h=>h) c12t hc12t _ (fun _=>rfl) fun ev w' v hR E pr hC=>by
    have e1:=E.was 2 _;simp[go_sem,gv,hC,hc12t,e1]
  ·exact OpOk.gd RB.refl 12 17 true true (b16) (fun _ _ h=>h) c12t hc12t _ (fun _=>rfl) fun ev w' v hR E pr hC=>by
    have e1:=E.eq pr 15 20;have cc:=(vA.next hR).cell (j:=1) (by omega);simp[lf]at cc;simp[go_sem,gv,hC,hc12t,cc,e1]
  ·exact OpOk.gdCall 12 17 true true (b16) (fun _ _ h=>h) c12t hc12t _ (fun _=>rfl) fun ev w' v hR E pr hC=>by
    have e1:=E.eq pr 14 19;have e2:=E.eq pr 16 21;rw[hC]at e1;rw[hC]at e2;refine⟨41,#[.int .i64 m.frm,.int .i64 n.peers],by simp[go_sem,gv,e1,e2,E.fn],?_⟩;rw[qb22];exact l11Server_rb (m.frm) (n.peers) hp.1 hp.2 _
  ·exact oq rfl fun ev w' v hR E pr=>by
    have e1:=E.eq pr 12 17;have e2:=E.eq pr 17 22;rcases Bool.eq_false_or_eq_true (b16) with hs|hs<;>simp[go_sem,E.con,qb23,gv,hc12t,e1,e2,hs]
  ·exact oq rfl fun ev w' v hR E pr=>by
    have e1:=E.eq pr 18 23;simp[go_sem,e1]
  ·exact OpOk.gd RB.refl 19 24 true true (b23) (fun _ _ h=>h) c19t hc19t _ (fun _=>rfl) fun ev w' v hR E pr hC=>by
    have e1:=E.was 3 _;simp[go_sem,gv,hC,hc19t,e1]
  ·exact OpOk.gd RB.refl 19 24 true true (b23) (fun _ _ h=>h) c19t hc19t _ (fun _=>rfl) fun ev w' v hR E pr hC=>by
    have e1:=E.eq pr 20 25;have cc:=(vM.next hR).cell (j:=0) (by omega);simp[lf]at cc;simp[go_sem,gv,hC,hc19t,cc,e1]
  ·exact OpOk.gdCall 19 24 true true (b23) (fun _ _ h=>h) c19t hc19t _ (fun _=>rfl) fun ev w' v hR E pr hC=>by
    have e1:=E.eq pr 21 26;rw[hC]at e1;refine⟨40,#[.int .i64 m.kind,.int .i64 1,.int .i64 4],by simp[go_sem,gv,e1,E.con,E.fn],?_⟩;rw[qb27];exact l1In_rb (m.kind) (1) (4) _
  ·exact oq rfl fun ev w' v hR E pr=>by
    have e1:=E.eq pr 19 24;have e2:=E.eq pr 22 27;rcases Bool.eq_false_or_eq_true (b23) with hs|hs<;>simp[go_sem,E.con,qb28,gv,hc19t,e1,e2,hs]
  ·exact oq rfl fun ev w' v hR E pr=>by
    have e1:=E.eq pr 23 28;simp[go_sem,e1]
  ·exact OpOk.gd RB.refl 24 29 true true (b28) (fun _ _ h=>h) c24t hc24t _ (fun _=>rfl) fun ev w' v hR E pr hC=>by
    have e1:=E.was 3 _;simp[go_sem,gv,hC,hc24t,e1]
  ·exact OpOk.gd RB.refl 24 29 true true (b28) (fun _ _ h=>h) c24t hc24t _ (fun _=>rfl) fun ev w' v hR E pr hC=>by
    have e1:=E.eq pr 25 30;have cc:=(vM.next hR).cell (j:=1) (by omega);simp[lf]at cc;simp[go_sem,gv,hC,hc24t,cc,e1]
  ·exact OpOk.gdCall 24 29 true true (b28) (fun _ _ h=>h) c24t hc24t _ (fun _=>rfl) fun ev w' v hR E pr hC=>by
    have e1:=E.eq pr 26 31;rw[hC]at e1;refine⟨40,#[.int .i64 m.term,.int .i64 1,.int .i64 100000],by simp[go_sem,gv,e1,E.con,E.fn],?_⟩;rw[qb32];exact l1In_rb (m.term) (1) (100000) _
  ·exact oq rfl fun ev w' v hR E pr=>by
    have e1:=E.eq pr 24 29;have e2:=E.eq pr 27 32;rcases Bool.eq_false_or_eq_true (b28) with hs|hs<;>simp[go_sem,E.con,qb33,gv,hc24t,e1,e2,hs]
  ·exact oq rfl fun ev w' v hR E pr=>by
    have e1:=E.eq pr 28 33;simp[go_sem,e1]
  ·exact OpOk.gd RB.refl 29 34 true true (b33) (fun _ _ h=>h) c29t hc29t _ (fun _=>rfl) fun ev w' v hR E pr hC=>by
    have e1:=E.was 3 _;simp[go_sem,gv,hC,hc29t,e1]
  ·exact OpOk.gd RB.refl 29 34 true true (b33) (fun _ _ h=>h) c29t hc29t _ (fun _=>rfl) fun ev w' v hR E pr hC=>by
    have e1:=E.eq pr 30 35;have cc:=(vM.next hR).cell (j:=6) (by omega);simp[lf]at cc;simp[go_sem,gv,hC,hc29t,cc,e1]
  ·exact OpOk.gdCall 29 34 true true (b33) (fun _ _ h=>h) c29t hc29t _ (fun _=>rfl) fun ev w' v hR E pr hC=>by
    have e1:=E.eq pr 31 36;rw[hC]at e1;refine⟨42,#[.slice eo m.ents.length ec],by simp[go_sem,gv,e1,E.fn],?_⟩;rw[qb37];exact specLogOk_L eo ec m.ents hml hmx _ (hr.next hR)
  ·exact oq rfl fun ev w' v hR E pr=>by
    have e1:=E.eq pr 29 34;have e2:=E.eq pr 32 37;rcases Bool.eq_false_or_eq_true (b33) with hs|hs<;>simp[go_sem,E.con,qb38,gv,hc29t,e1,e2,hs]
  ·exact oq rfl fun ev w' v hR E pr=>by
    have e1:=E.eq pr 33 38;simp[go_sem,e1]
  ·exact OpOk.gd RB.refl 34 39 true true (b38) (fun _ _ h=>h) c34t hc34t _ (fun _=>rfl) fun ev w' v hR E pr hC=>by
    have e1:=E.was 3 _;simp[go_sem,gv,hC,hc34t,e1]
  ·exact OpOk.gd RB.refl 34 39 true true (b38) (fun _ _ h=>h) c34t hc34t _ (fun _=>rfl) fun ev w' v hR E pr hC=>by
    have e1:=E.eq pr 35 40;have cc:=(vM.next hR).cell (j:=6) (by omega);simp[lf]at cc;simp[go_sem,gv,hC,hc34t,cc,e1]
  ·exact OpOk.gdCall 34 39 true true (b38) (fun _ _ h=>h) c34t hc34t _ (fun _=>rfl) fun ev w' v hR E pr hC=>by
    have e1:=E.eq pr 36 41;rw[hC]at e1;refine⟨43,#[.slice eo m.ents.length ec],by simp[go_sem,gv,e1,E.fn],?_⟩;exact specLast_L eo ec m.ents hml _ (hr.next hR)
  ·exact OpOk.gd RB.refl 34 39 true true (b38) (fun _ _ h=>h) c34t hc34t _ (fun _=>rfl) fun ev w' v hR E pr hC=>by
    have e1:=E.was 3 _;simp[go_sem,gv,hC,hc34t,e1]
  ·exact OpOk.gd RB.refl 34 39 true true (b38) (fun _ _ h=>h) c34t hc34t _ (fun _=>rfl) fun ev w' v hR E pr hC=>by
    have e1:=E.eq pr 38 43;have cc:=(vM.next hR).cell (j:=1) (by omega);simp[lf]at cc;simp[go_sem,gv,hC,hc34t,cc,e1]
  ·exact OpOk.gd RB.refl 34 39 true true (b38) (fun _ _ h=>h) c34t hc34t _ (fun _=>rfl) fun ev w' v hR E pr hC=>by
    have e1:=E.eq pr 37 42;have e2:=E.eq pr 39 44;simp[go_sem,gv,hC,hc34t,qb45,e1,e2]
  ·exact oq rfl fun ev w' v hR E pr=>by
    have e1:=E.eq pr 34 39;have e2:=E.eq pr 40 45;rcases Bool.eq_false_or_eq_true (b38) with hs|hs<;>simp[go_sem,E.con,qb46,gv,hc34t,e1,e2,hs]
  ·exact oq rfl fun ev w' v hR E pr=>by
    have e1:=E.eq pr 41 46;simp[go_sem,e1]
 ·intro v w' hR hp
  obtain⟨_,_,_,_,_,_,_,_,_,_,_,_,_,_,_,_,_,_,_,_,_,_,_,_,_,_,_,_,_,_,_,_,_,_,_,_,_,_,_,_,_,_,p42,_⟩:=hp;replace p42:v 42=.bool b46:=p42;simp only[putL,Nat.zero_add,Nat.reduceAdd,p42,Act.put,List.setIfInBounds_toArray,List.set_cons_zero,List.set_cons_succ];refine hK1.out _ _ ?_;clear hK1;go_wp2;go_ret;refine⟨?_,RB.trans _ _ _ hb hR⟩
  have e:b46=forB n m:=by
   simp only[qb9,qb15,qb16,qb22,qb23,qb27,qb28,qb32,qb33,qb37,qb38,qb45,qb46,forB,inB,Bool.and_assoc]
  rw[<-e];rfl
end
section
open Go
section
variable {P:Program} {ops:Array Oper} {Q:Exit->Act->World->Prop}
end
end
end Go.Proofs.YtbabakgjkloabaaGreatDoor
