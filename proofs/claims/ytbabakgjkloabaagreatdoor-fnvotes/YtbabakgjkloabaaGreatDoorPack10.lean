/-
  Helpers: Sn2, Nd2, Ms3, Sn4, Orda, Ordb.
-/
import Derived.Test.YtbabakgjkloabaaGreatDoorPack9
set_option linter.unusedVariables false
set_option linter.unusedSimpArgs false
set_option maxRecDepth 100000
set_option maxHeartbeats 16000000
namespace Go.Proofs.YtbabakgjkloabaaGreatDoor
section
open Go Go.RowKit
attribute [local go_sem ↓] Go.wp_at_zero Go.wp_at_succ
theorem Tryz.elEnQ:ElI Tryz.prog 24 47 2 24:=⟨Tryz.underlying24,by
 obtain⟨i0,hi0,hz0,hz1,hz2⟩:=info_parts (show (Tryz.prog.info? 47).map (fun i=>(i.zero,i.size,i.bytes))=some (some (.agg #[.int .i64 0,.string ByteArray.empty]),2,24) by kernel_rfl)
 exact⟨i0,_,hi0,hz0,hz1,hz2,rfl⟩,by omega,by omega⟩
theorem Tryz.elIQ:ElI Tryz.prog 25 2 1 8:=⟨Tryz.underlying25,by
 obtain⟨i0,hi0,hz0,hz1,hz2⟩:=info_parts Tryz.info9I
 exact⟨i0,_,hi0,hz0,hz1,hz2,rfl⟩,by omega,by omega⟩
theorem iM{P:Program}{ops:Array Oper}{o:Oper}{rest:List Oper}{a:Act}{w:World}{Q:Exit->Act->World->Prop}(hgd:o.guard=none)(s x:Operand){t e:TypeId}{size bytes:Nat}(E:ElI P t e size bytes)(ho:o.op=.call { callee:=.builtin .append,args:=#[s,x],argTypes:=#[t,t] })(d:Nat)(hd:o.dst=some d)(base g0:Nat)(f:Nat->Value)(hs:a.eval s=.slice (some ⟨g0,0,none⟩) 0 0)(h0:GOwn w base e size (some ⟨g0,0,none⟩) 0 0 f)(so:Option Addr)(m c:Nat)(g:Nat->Value)(hx:a.eval x=.slice so m c)(hr:GRow w so (m*size) g)(h1:∀ j,j<m*size->(g j).oneCell'=true)(hn:m<=100000000)(hbase:base<=w.heap.size)
  (h:∀ ao' cap' w',GOwn w' base e size ao' m cap' g->w.grownBy w' (some g0)->wpList P ops Q rest (a.put (some d) (.slice ao' m cap')) w'):wpList P ops Q (o :: rest) a w:=by
 refine gF hgd s x E ho d hd base f _ 0 0 hs h0 so m c g hx hr h1 (by omega) hbase (fun ao' cap' w' h2 h3=>?_);rw[Nat.zero_add]at h2 ⊢;exact h ao' cap' w' (h2.congr (fun j hj=>by simp)) h3
theorem nQ(w:World)(cs:Array Value)(t:TypeId):aG (w.alloc (.cells cs t)) w.heap.size t:=⟨cs,_,Go.Deep.blk_alloc_new _ _⟩
theorem yL{w:World}{base cap:Nat}{ao:Option Addr}{l:List Int}(h:OwI w base ao cap l):dI ao≠some w.heap.size:=fun e=>by
 have:=(h.at e).2;omega
theorem yM(l:List En)(j:Nat)(h:j<l.length*2):(lf (dZ l) j).oneCell'=true:=by
 rw[wX l j h];unfold nr
 split<;>rfl
theorem yN(l:List Int)(j:Nat)(h:j<l.length*1):(lf (cU l) j).oneCell'=true:=by
 rw[jF l j (by omega)];rfl
theorem jA(n:Nd)(s:NdS)(hz:NdZ n s)(w:World)(hM:NdM w n s):Calls Tryz.prog 38 #[aX n s] w fun e w'=>∃ s',e=.returned (aX n s')/\NdO w' w.heap.size n s'/\RB w w':=by
 obtain⟨lo,lc,vo,vc,no,nc,mo,mc⟩:=s;have hb:=rt _ _ _ (ra w (.cells (aJ n ⟨lo,lc,vo,vc,no,nc,mo,mc⟩).toArray 27)) (ra _ (.cells (aJ aU aP).toArray 27));have vA:NdB _ w.heap.size n ⟨lo,lc,vo,vc,no,nc,mo,mc⟩:=(aH w n ⟨lo,lc,vo,vc,no,nc,mo,mc⟩).next (ra _ (.cells (aJ aU aP).toArray 27));have vR:=aH (w.alloc (.cells (aJ n ⟨lo,lc,vo,vc,no,nc,mo,mc⟩).toArray 27)) aU aP;rw[World.size_alloc]at vR;have hM0:Hid (NdM w n ⟨lo,lc,vo,vc,no,nc,mo,mc⟩):=hM;have hzl:=hz.l;have hzv:=hz.v;have hzx:=hz.x;have hzm:=hz.m;clear hz hM;go_enter Tryz.func38,Tryz.ntmps38;refine aW fun K0 hK0=>?_
 go_wp2;refine hK0.out _ _ ?_;clear hK0;have hsR:w.heap.size+1 < _:=vR.lt;generalize ((w.alloc _).alloc _)=W0 at hb vA vR hsR ⊢;have hal0:=ra W0 (.cells #[] 47);have hE0:GOwn (W0.alloc (.cells #[] 47)) W0.heap.size 47 2 (some ⟨W0.heap.size,0,none⟩) 0 0 (fun _=>undef):=GOwn.empty W0 47 2 _;have wA0:NdB (W0.alloc (.cells #[] 47)) w.heap.size n ⟨lo,lc,vo,vc,no,nc,mo,mc⟩:=vn vA hal0;have wR0:NdB (W0.alloc (.cells #[] 47)) (w.heap.size+1) aU aP:=vn vR hal0;have wb0:=rt _ _ _ hb hal0;have hr0:GRow (W0.alloc (.cells #[] 47)) lo (n.log.length*2) (lf (dZ n.log)):=LRow.g (hM0.out.next wb0).l (by rw[dE]);have hsz0:W0.heap.size<=(W0.alloc (.cells #[] 47)).heap.size:=hal0.size;have hgt0:aG (W0.alloc (.cells #[] 47)) W0.heap.size 47:=nQ W0 _ 47;obtain⟨f0,f1,f2,f3,f4,f5,f6,f7,f8,f9⟩:=cN wA0
 go_wp2_with (first|(at_builtin;(with_reducible refine iM rfl (.tmp 3) (.tmp 5) Tryz.elEnQ rfl 6 rfl W0.heap.size W0.heap.size _ (by simp[go_sem]) hE0 lo n.log.length lc (lf (dZ n.log)) (by simp[go_sem]) hr0 (yM n.log) (by omega) hsz0 ?_);intro lo0 lc0 U0 hO0 hg0;have xA0:NdB U0 w.heap.size n ⟨lo,lc,vo,vc,no,nc,mo,mc⟩:=VHas.grown wA0 hg0 (fun e=>by have:=oI e;omega))|((with_reducible refine wN 24 (.tmp 7) (.tmp 6) w.heap.size 4 (.slice lo0 n.log.length lc0) n ⟨lo0,lc0,vo,vc,no,nc,mo,mc⟩ xA0 ?_);intro X0 vX0 hx0;have hT0:∀ z,some W0.heap.size=some z->aG (W0.alloc (.cells #[] 47)) z 47:=(fun z e=>by cases e;exact hgt0);have yb0:=aV (aV wb0 hg0 (by omega)) hx0 nl;have yR0:NdB X0 (w.heap.size+1) aU aP:=VHas.grown (VHas.grown wR0 hg0 (fun e=>by have:=oI e;omega)) hx0 (fun e=>by have:=oI e;omega);have hN0:OwE X0 W0.heap.size lo0 lc0 n.log:=GOwn.gr hO0 hx0 (bA xA0) (by decide);have hS0:W0.heap.size+1<=X0.heap.size:=Nat.le_trans (by simp[World.size_alloc]) (Nat.le_trans hg0.size hx0.size);clear f0 f1 f2 f3 f4 f5 f6 f7 f8 f9;have hal1:=ra X0 (.cells #[] 2);have hE1:GOwn (X0.alloc (.cells #[] 2)) X0.heap.size 2 1 (some ⟨X0.heap.size,0,none⟩) 0 0 (fun _=>undef):=GOwn.empty X0 2 1 _;have wA1:NdB (X0.alloc (.cells #[] 2)) w.heap.size n ⟨lo0,lc0,vo,vc,no,nc,mo,mc⟩:=vn vX0 hal1;have wR1:NdB (X0.alloc (.cells #[] 2)) (w.heap.size+1) aU aP:=vn yR0 hal1;have wb1:=rt _ _ _ yb0 hal1;have hr1:GRow (X0.alloc (.cells #[] 2)) vo (n.votes.length*1) (lf (cU n.votes)):=LRow.g (hM0.out.next wb1).v (by rw[cO];omega);have hN0a:=hN0.next hal1;have hsz1:X0.heap.size<=(X0.alloc (.cells #[] 2)).heap.size:=hal1.size;have hgt1:aG (X0.alloc (.cells #[] 2)) X0.heap.size 2:=nQ X0 _ 2;obtain⟨f0,f1,f2,f3,f4,f5,f6,f7,f8,f9⟩:=cN wA1)|(at_builtin;(with_reducible refine iM rfl (.tmp 8) (.tmp 10) Tryz.elIQ rfl 11 rfl X0.heap.size X0.heap.size _ (by simp[go_sem]) hE1 vo n.votes.length vc (lf (cU n.votes)) (by simp[go_sem]) hr1 (yN n.votes) (by omega) hsz1 ?_);intro vo1 vc1 U1 hO1 hg1;have xA1:NdB U1 w.heap.size n ⟨lo0,lc0,vo,vc,no,nc,mo,mc⟩:=VHas.grown wA1 hg1 (fun e=>by have:=oI e;omega))|((with_reducible refine wN 25 (.tmp 12) (.tmp 11) w.heap.size 7 (.slice vo1 n.votes.length vc1) n ⟨lo0,lc0,vo1,vc1,no,nc,mo,mc⟩ xA1 ?_);intro X1 vX1 hx1;have hT1:∀ z,some X0.heap.size=some z->aG (X0.alloc (.cells #[] 2)) z 2:=(fun z e=>by cases e;exact hgt1);have yb1:=aV (aV wb1 hg1 (by omega)) hx1 nl;have yR1:NdB X1 (w.heap.size+1) aU aP:=VHas.grown (VHas.grown wR1 hg1 (fun e=>by have:=oI e;omega)) hx1 (fun e=>by have:=oI e;omega);have hN1:OwI X1 X0.heap.size vo1 vc1 n.votes:=GOwn.gr hO1 hx1 (bA xA1) (by decide);have hS1:X0.heap.size+1<=X1.heap.size:=Nat.le_trans (by simp[World.size_alloc]) (Nat.le_trans hg1.size hx1.size);clear f0 f1 f2 f3 f4 f5 f6 f7 f8 f9;have hN0ab:=(hN0a.gr hg1 hT1 (by decide)).gr hx1 (bA xA1) (by decide);have hal2:=ra X1 (.cells #[] 2);have hE2:GOwn (X1.alloc (.cells #[] 2)) X1.heap.size 2 1 (some ⟨X1.heap.size,0,none⟩) 0 0 (fun _=>undef):=GOwn.empty X1 2 1 _;have wA2:NdB (X1.alloc (.cells #[] 2)) w.heap.size n ⟨lo0,lc0,vo1,vc1,no,nc,mo,mc⟩:=vn vX1 hal2;have wR2:NdB (X1.alloc (.cells #[] 2)) (w.heap.size+1) aU aP:=vn yR1 hal2;have wb2:=rt _ _ _ yb1 hal2;have hr2:GRow (X1.alloc (.cells #[] 2)) no (n.next.length*1) (lf (cU n.next)):=LRow.g (hM0.out.next wb2).x (by rw[cO];omega);have hN0aba:=hN0ab.next hal2;have hN1a:=hN1.next hal2;have hsz2:X1.heap.size<=(X1.alloc (.cells #[] 2)).heap.size:=hal2.size;have hgt2:aG (X1.alloc (.cells #[] 2)) X1.heap.size 2:=nQ X1 _ 2;obtain⟨f0,f1,f2,f3,f4,f5,f6,f7,f8,f9⟩:=cN wA2)|(at_builtin;(with_reducible refine iM rfl (.tmp 13) (.tmp 15) Tryz.elIQ rfl 16 rfl X1.heap.size X1.heap.size _ (by simp[go_sem]) hE2 no n.next.length nc (lf (cU n.next)) (by simp[go_sem]) hr2 (yN n.next) (by omega) hsz2 ?_);intro no2 nc2 U2 hO2 hg2;have xA2:NdB U2 w.heap.size n ⟨lo0,lc0,vo1,vc1,no,nc,mo,mc⟩:=VHas.grown wA2 hg2 (fun e=>by have:=oI e;omega))|((with_reducible refine wN 25 (.tmp 17) (.tmp 16) w.heap.size 8 (.slice no2 n.next.length nc2) n ⟨lo0,lc0,vo1,vc1,no2,nc2,mo,mc⟩ xA2 ?_);intro X2 vX2 hx2;have hne2hN1a:=yL hN1;have hT2:∀ z,some X1.heap.size=some z->aG (X1.alloc (.cells #[] 2)) z 2:=(fun z e=>by cases e;exact hgt2);have yb2:=aV (aV wb2 hg2 (by omega)) hx2 nl;have yR2:NdB X2 (w.heap.size+1) aU aP:=VHas.grown (VHas.grown wR2 hg2 (fun e=>by have:=oI e;omega)) hx2 (fun e=>by have:=oI e;omega);have hN2:OwI X2 X1.heap.size no2 nc2 n.next:=GOwn.gr hO2 hx2 (bA xA2) (by decide);have hS2:X1.heap.size+1<=X2.heap.size:=Nat.le_trans (by simp[World.size_alloc]) (Nat.le_trans hg2.size hx2.size);clear f0 f1 f2 f3 f4 f5 f6 f7 f8 f9;have hN0abab:=(hN0aba.gr hg2 hT2 (by decide)).gr hx2 (bA xA2) (by decide);have hN1ab:=(hN1a.apart hg2 (hne2hN1a)).gr hx2 (bA xA2) (by decide);have hal3:=ra X2 (.cells #[] 2);have hE3:GOwn (X2.alloc (.cells #[] 2)) X2.heap.size 2 1 (some ⟨X2.heap.size,0,none⟩) 0 0 (fun _=>undef):=GOwn.empty X2 2 1 _;have wA3:NdB (X2.alloc (.cells #[] 2)) w.heap.size n ⟨lo0,lc0,vo1,vc1,no2,nc2,mo,mc⟩:=vn vX2 hal3;have wR3:NdB (X2.alloc (.cells #[] 2)) (w.heap.size+1) aU aP:=vn yR2 hal3;have wb3:=rt _ _ _ yb2 hal3;have hr3:GRow (X2.alloc (.cells #[] 2)) mo (n.mat.length*1) (lf (cU n.mat)):=LRow.g (hM0.out.next wb3).m (by rw[cO];omega);have hN0ababa:=hN0abab.next hal3;have hN1aba:=hN1ab.next hal3;have hN2a:=hN2.next hal3;have hsz3:X2.heap.size<=(X2.alloc (.cells #[] 2)).heap.size:=hal3.size;have hgt3:aG (X2.alloc (.cells #[] 2)) X2.heap.size 2:=nQ X2 _ 2;obtain⟨f0,f1,f2,f3,f4,f5,f6,f7,f8,f9⟩:=cN wA3)|(at_builtin;(with_reducible refine iM rfl (.tmp 18) (.tmp 20) Tryz.elIQ rfl 21 rfl X2.heap.size X2.heap.size _ (by simp[go_sem]) hE3 mo n.mat.length mc (lf (cU n.mat)) (by simp[go_sem]) hr3 (yN n.mat) (by omega) hsz3 ?_);intro mo3 mc3 U3 hO3 hg3;have xA3:NdB U3 w.heap.size n ⟨lo0,lc0,vo1,vc1,no2,nc2,mo,mc⟩:=VHas.grown wA3 hg3 (fun e=>by have:=oI e;omega))|((with_reducible refine wN 25 (.tmp 22) (.tmp 21) w.heap.size 9 (.slice mo3 n.mat.length mc3) n ⟨lo0,lc0,vo1,vc1,no2,nc2,mo3,mc3⟩ xA3 ?_);intro X3 vX3 hx3;have hne3hN2a:=yL hN2;have hne3hN1aba:=yL hN1ab;have hT3:∀ z,some X2.heap.size=some z->aG (X2.alloc (.cells #[] 2)) z 2:=(fun z e=>by cases e;exact hgt3);have yb3:=aV (aV wb3 hg3 (by omega)) hx3 nl;have yR3:NdB X3 (w.heap.size+1) aU aP:=VHas.grown (VHas.grown wR3 hg3 (fun e=>by have:=oI e;omega)) hx3 (fun e=>by have:=oI e;omega);have hN3:OwI X3 X2.heap.size mo3 mc3 n.mat:=GOwn.gr hO3 hx3 (bA xA3) (by decide);have hS3:X2.heap.size+1<=X3.heap.size:=Nat.le_trans (by simp[World.size_alloc]) (Nat.le_trans hg3.size hx3.size);clear f0 f1 f2 f3 f4 f5 f6 f7 f8 f9;have hN0ababab:=(hN0ababa.gr hg3 hT3 (by decide)).gr hx3 (bA xA3) (by decide);have hN1abab:=(hN1aba.apart hg3 (hne3hN1aba)).gr hx3 (bA xA3) (by decide);have hN2ab:=(hN2a.apart hg3 (hne3hN2a)).gr hx3 (bA xA3) (by decide);obtain⟨f0,f1,f2,f3,f4,f5,f6,f7,f8,f9⟩:=cN vX3)|((with_reducible refine wB 27 (.tmp 2) (.tmp 23) (w.heap.size+1) (aJ (n) (⟨lo0,lc0,vo1,vc1,no2,nc2,mo3,mc3⟩)) yR3 ?_);intro W9 hv9 hg9)|fail)
 obtain⟨q0,q1,q2,q3,q4,q5,q6,q7,q8,q9⟩:=cN hv9;refine bodyPost_ret (v:=aX n ⟨lo0,lc0,vo1,vc1,no2,nc2,mo3,mc3⟩) (by simp[results,Tryz.results38,go_sem,q0,q1,q2,q3,q4,q5,q6,q7,q8,q9]) rfl ?_;refine⟨⟨lo0,lc0,vo1,vc1,no2,nc2,mo3,mc3⟩,rfl,?_,aV yb3 hg9 (by omega)⟩;simp only[World.size_alloc] at *
 exact NdO.gr ⟨hN0ababab.from (by omega),hN1abab.from (by omega),hN2ab.from (by omega),hN3.from (by omega),fun b e q=>by have h1:=(hN1.at e).2;have h2:=(hN2.at q).1;omega,fun b e q=>by have h1:=(hN1.at e).2;have h2:=(hN3.at q).1;omega,fun b e q=>by have h1:=(hN2.at e).2;have h2:=(hN3.at q).1;omega⟩ hg9 (bA yR3) (by decide) (by decide)
theorem jT(n:Nd)(s:NdS)(hz:NdZ n s)(aL aE aO:Addr)(w:World)(hG:GlV w aL aE aO)(hM:NdM w n s):Calls Tryz.prog 12 #[aX n s] w fun e w'=>e=.returned (.bool (bY n))/\RB w w':=by
 have hb:=ra w (.cells (aJ n s).toArray 27);have vA:=aH w n s;replace hM:=hM.next hb;replace hG:=hG.next hb;go_enter Tryz.func12,Tryz.ntmps12
 go_wp2_with fail
 generalize (w.alloc _)=W at hb vA hM hG ⊢;have hd:RB W W.drew:=(Below.refl _ _).drew;replace hb:=rt _ _ _ hb hd;replace vA:=vA.next hd;replace hM:=hM.next hd;replace hG:=hG.next hd;obtain⟨b5,qb5⟩:∃ b:Bool,b=(decide (1<=n.peers)):=⟨_,rfl⟩
 obtain⟨c3t,hc3t⟩:∃ c:Bool,c=(true&&((b5)==true)):=⟨_,rfl⟩
 obtain⟨b9,qb9⟩:∃ b:Bool,b=(decide (n.peers<=5)):=⟨_,rfl⟩
 obtain⟨b10,qb10⟩:∃ b:Bool,b=((b5&&b9)):=⟨_,rfl⟩
 obtain⟨c8t,hc8t⟩:∃ c:Bool,c=(true&&((b10)==true)):=⟨_,rfl⟩
 obtain⟨b15,qb15⟩:∃ b:Bool,b=(dS n.peers n.id):=⟨_,rfl⟩
 obtain⟨b16,qb16⟩:∃ b:Bool,b=((b10&&b15)):=⟨_,rfl⟩
 obtain⟨c14t,hc14t⟩:∃ c:Bool,c=(true&&((b16)==true)):=⟨_,rfl⟩
 obtain⟨b20,qb20⟩:∃ b:Bool,b=(decide (0<=n.term)):=⟨_,rfl⟩
 obtain⟨b21,qb21⟩:∃ b:Bool,b=((b16&&b20)):=⟨_,rfl⟩
 obtain⟨c19t,hc19t⟩:∃ c:Bool,c=(true&&((b21)==true)):=⟨_,rfl⟩
 obtain⟨b25,qb25⟩:∃ b:Bool,b=(decide (n.term<=100000)):=⟨_,rfl⟩
 obtain⟨b26,qb26⟩:∃ b:Bool,b=((b21&&b25)):=⟨_,rfl⟩
 obtain⟨c24t,hc24t⟩:∃ c:Bool,c=(true&&((b26)==true)):=⟨_,rfl⟩
 obtain⟨b30,qb30⟩:∃ b:Bool,b=((n.vote==(-1))):=⟨_,rfl⟩
 obtain⟨c28f,hc28f⟩:∃ c:Bool,c=(c24t&&((b30)==false)):=⟨_,rfl⟩
 obtain⟨b35,qb35⟩:∃ b:Bool,b=(dS n.peers n.vote):=⟨_,rfl⟩
 obtain⟨b36,qb36⟩:∃ b:Bool,b=((b30||b35)):=⟨_,rfl⟩
 obtain⟨b37,qb37⟩:∃ b:Bool,b=((b26&&b36)):=⟨_,rfl⟩
 obtain⟨c35t,hc35t⟩:∃ c:Bool,c=(true&&((b37)==true)):=⟨_,rfl⟩
 obtain⟨b43,qb43⟩:∃ b:Bool,b=(fJ n.log&&decide (bM n.log<=n.term)):=⟨_,rfl⟩
 obtain⟨b44,qb44⟩:∃ b:Bool,b=((b37&&b43)):=⟨_,rfl⟩
 obtain⟨c42t,hc42t⟩:∃ c:Bool,c=(true&&((b44)==true)):=⟨_,rfl⟩
 obtain⟨b48,qb48⟩:∃ b:Bool,b=(decide (0<=n.commit)):=⟨_,rfl⟩
 obtain⟨b49,qb49⟩:∃ b:Bool,b=((b44&&b48)):=⟨_,rfl⟩
 obtain⟨c47t,hc47t⟩:∃ c:Bool,c=(true&&((b49)==true)):=⟨_,rfl⟩
 obtain⟨b55,qb55⟩:∃ b:Bool,b=(decide (n.commit<=(n.log.length:Int))):=⟨_,rfl⟩
 obtain⟨b56,qb56⟩:∃ b:Bool,b=((b49&&b55)):=⟨_,rfl⟩
 obtain⟨c54t,hc54t⟩:∃ c:Bool,c=(true&&((b56)==true)):=⟨_,rfl⟩
 obtain⟨b59,qb59⟩:∃ b:Bool,b=(cB n):=⟨_,rfl⟩
 obtain⟨b60,qb60⟩:∃ b:Bool,b=((b56&&b59)):=⟨_,rfl⟩
 refine bQ (by kernel_rfl) (by kernel_rfl) RB rr rt
  [isV (.pointer (some ⟨w.heap.size,1,none⟩)),isV (.int .i64 n.peers),isV (.bool b5),isV (.bool b5),isV (gv c3t (.pointer (some ⟨w.heap.size,1,none⟩))),isV (gv c3t (.int .i64 n.peers)),isV (gv c3t (.bool b9)),isV (.bool b10),isV (.bool b10),isV (gv c8t (aX n s)),isV (gv c8t (.pointer (some ⟨w.heap.size,0,none⟩))),isV (gv c8t (.int .i64 n.id)),isV (gv c8t (.bool b15)),isV (.bool b16),isV (.bool b16),isV (gv c14t (.pointer (some ⟨w.heap.size,2,none⟩))),isV (gv c14t (.int .i64 n.term)),isV (gv c14t (.bool b20)),isV (.bool b21),isV (.bool b21),isV (gv c19t (.pointer (some ⟨w.heap.size,2,none⟩))),isV (gv c19t (.int .i64 n.term)),isV (gv c19t (.bool b25)),isV (.bool b26),isV (.bool b26),isV (gv c24t (.pointer (some ⟨w.heap.size,3,none⟩))),isV (gv c24t (.int .i64 n.vote)),isV (gv c24t (.bool b30)),isV (gv c24t (.bool b30)),isV (gv c28f (aX n s)),isV (gv c28f (.pointer (some ⟨w.heap.size,3,none⟩))),isV (gv c28f (.int .i64 n.vote)),isV (gv c28f (.bool b35)),isV (gv c24t (.bool b36)),isV (.bool b37),isV (.bool b37),isV (gv c35t (.pointer (some ⟨w.heap.size,4,none⟩))),isV (gv c35t (.slice s.lo n.log.length s.lc)),isV (gv c35t (.pointer (some ⟨w.heap.size,2,none⟩))),isV (gv c35t (.int .i64 n.term)),isV (gv c35t (.bool b43)),isV (.bool b44),isV (.bool b44),isV (gv c42t (.pointer (some ⟨w.heap.size,6,none⟩))),isV (gv c42t (.int .i64 n.commit)),isV (gv c42t (.bool b48)),isV (.bool b49),isV (.bool b49),isV (gv c47t (.pointer (some ⟨w.heap.size,6,none⟩))),isV (gv c47t (.int .i64 n.commit)),isV (gv c47t (aX n s)),isV (gv c47t (.int .i64 (n.log.length:Int))),isV (gv c47t (.bool b55)),isV (.bool b56),isV (.bool b56),isV (gv c54t (aX n s)),isV (gv c54t (.bool b59)),isV (.bool b60),isV (.bool b60)]
  ⟨iR,iR,iR,iR,iR,iR,iR,iR,iR,iR,iR,iR,iR,iR,iR,iR,iR,iR,iR,iR,iR,iR,iR,iR,iR,iR,iR,iR,iR,iR,iR,iR,iR,iR,iR,iR,iR,iR,iR,iR,iR,iR,iR,iR,iR,iR,iR,iR,iR,iR,iR,iR,iR,iR,iR,iR,iR,iR,iR,trivial⟩ rfl ?_ ?_
 ·refine⟨?_,?_,?_,?_,?_,?_,?_,?_,?_,?_,?_,?_,?_,?_,?_,?_,?_,?_,?_,?_,?_,?_,?_,?_,?_,?_,?_,?_,?_,?_,?_,?_,?_,?_,?_,?_,?_,?_,?_,?_,?_,?_,?_,?_,?_,?_,?_,?_,?_,?_,?_,?_,?_,?_,?_,?_,?_,?_,?_,trivial⟩
  ·exact ow 1
  ·exact oc 0 3 fun _ hR=>(vA.next hR).cell (j:=1) (by omega)
  ·exact mQ 1 4 qb5
  ·exact o1 2 5
  ·exact gw 3 6 hc3t 1 nt
  ·exact gc 3 6 hc3t 4 7 fun _ hR=>(vA.next hR).cell (j:=1) (by omega)
  ·exact g1 3 6 hc3t 5 8 qb9
  ·exact oq rfl fun ev w' v hR E pr=>by
    have e1:=E.eq pr 3 6;have e2:=E.eq pr 6 9;rcases bq (b5) with hs|hs<;>simp[go_sem,E.con,qb10,gv,hc3t,e1,e2,hs]
  ·exact o1 7 10
  ·exact OpOk.gd rr 8 11 true true (b10) (fun _ _ h=>h) c8t hc8t _ (fun _=>rfl) fun ev w' v hR E pr hC=>by
    have e1:=E.was 1 _;exact bD rfl e1 (vA.next hR)
  ·exact gw 8 11 hc8t 1 nt
  ·exact gc 8 11 hc8t 10 13 fun _ hR=>(vA.next hR).cell (j:=0) (by omega)
  ·exact OpOk.gdCall 8 11 true true (b10) (fun _ _ h=>h) c8t hc8t _ (fun _=>rfl) fun ev w' v hR E pr hC=>by
    have e1:=E.eq pr 9 12;have e2:=E.eq pr 11 14;rw[hC]at e1;rw[hC]at e2;refine⟨44,#[aX n s,.int .i64 n.id],by simp[go_sem,gv,e1,e2,E.fn],?_⟩;rw[qb15];exact iV n s n.id _
  ·exact oq rfl fun ev w' v hR E pr=>by
    have e1:=E.eq pr 8 11;have e2:=E.eq pr 12 15;rcases bq (b10) with hs|hs<;>simp[go_sem,E.con,qb16,gv,hc8t,e1,e2,hs]
  ·exact o1 13 16
  ·exact gw 14 17 hc14t 1 nt
  ·exact gc 14 17 hc14t 15 18 fun _ hR=>(vA.next hR).cell (j:=2) (by omega)
  ·exact g1 14 17 hc14t 16 19 qb20
  ·exact oq rfl fun ev w' v hR E pr=>by
    have e1:=E.eq pr 14 17;have e2:=E.eq pr 17 20;rcases bq (b16) with hs|hs<;>simp[go_sem,E.con,qb21,gv,hc14t,e1,e2,hs]
  ·exact o1 18 21
  ·exact gw 19 22 hc19t 1 nt
  ·exact gc 19 22 hc19t 20 23 fun _ hR=>(vA.next hR).cell (j:=2) (by omega)
  ·exact g1 19 22 hc19t 21 24 qb25
  ·exact oq rfl fun ev w' v hR E pr=>by
    have e1:=E.eq pr 19 22;have e2:=E.eq pr 22 25;rcases bq (b21) with hs|hs<;>simp[go_sem,E.con,qb26,gv,hc19t,e1,e2,hs]
  ·exact o1 23 26
  ·exact gw 24 27 hc24t 1 nt
  ·exact gc 24 27 hc24t 25 28 fun _ hR=>(vA.next hR).cell (j:=3) (by omega)
  ·exact g1 24 27 hc24t 26 29 qb30
  ·exact g1 24 27 hc24t 27 30 nt
  ·exact OpOk.gd rr 28 31 false c24t (b30) (fun _ _ h=>h) c28f hc28f _ (fun _=>rfl) fun ev w' v hR E pr hC=>by
    have e1:=E.was 1 _;exact bD rfl e1 (vA.next hR)
  ·exact gw 28 31 hc28f 1 nt
  ·exact gc 28 31 hc28f 30 33 fun _ hR=>(vA.next hR).cell (j:=3) (by omega)
  ·exact OpOk.gdCall 28 31 false c24t (b30) (fun _ _ h=>h) c28f hc28f _ (fun _=>rfl) fun ev w' v hR E pr hC=>by
    have e1:=E.eq pr 29 32;have e2:=E.eq pr 31 34;rw[hC]at e1;rw[hC]at e2;refine⟨44,#[aX n s,.int .i64 n.vote],by simp[go_sem,gv,e1,e2,E.fn],?_⟩;rw[qb35];exact iV n s n.vote _
  ·exact OpOk.gd rr 24 27 true true (b26) (fun _ _ h=>h) c24t hc24t _ (fun _=>rfl) fun ev w' v hR E pr hC=>by
    have e1:=E.eq pr 28 31;have e2:=E.eq pr 32 35;rcases bq (b30) with hs|hs<;>simp[go_sem,gv,hC,hc24t,E.con,qb36,gv,hc28f,e1,e2,hs]
  ·exact oq rfl fun ev w' v hR E pr=>by
    have e1:=E.eq pr 24 27;have e2:=E.eq pr 33 36;rcases bq (b26) with hs|hs<;>simp[go_sem,E.con,qb37,gv,hc24t,e1,e2,hs]
  ·exact o1 34 37
  ·exact gw 35 38 hc35t 1 nt
  ·exact gc 35 38 hc35t 36 39 fun _ hR=>(vA.next hR).cell (j:=4) (by omega)
  ·exact gw 35 38 hc35t 1 nt
  ·exact gc 35 38 hc35t 38 41 fun _ hR=>(vA.next hR).cell (j:=2) (by omega)
  ·exact OpOk.gdCall 35 38 true true (b37) (fun _ _ h=>h) c35t hc35t _ (fun _=>rfl) fun ev w' v hR E pr hC=>by
    have e1:=E.eq pr 37 40;have e2:=E.eq pr 39 42;rw[hC]at e1;rw[hC]at e2;refine⟨45,#[.slice s.lo n.log.length s.lc,.int .i64 n.term],by simp[go_sem,gv,e1,e2,E.fn],?_⟩;rw[qb43];exact nT s.lo s.lc n.log n.term aL aE aO hz.l hz.tx _ (hG.next hR) (hM.next hR).l
  ·exact oq rfl fun ev w' v hR E pr=>by
    have e1:=E.eq pr 35 38;have e2:=E.eq pr 40 43;rcases bq (b37) with hs|hs<;>simp[go_sem,E.con,qb44,gv,hc35t,e1,e2,hs]
  ·exact o1 41 44
  ·exact gw 42 45 hc42t 1 nt
  ·exact gc 42 45 hc42t 43 46 fun _ hR=>(vA.next hR).cell (j:=6) (by omega)
  ·exact g1 42 45 hc42t 44 47 qb48
  ·exact oq rfl fun ev w' v hR E pr=>by
    have e1:=E.eq pr 42 45;have e2:=E.eq pr 45 48;rcases bq (b44) with hs|hs<;>simp[go_sem,E.con,qb49,gv,hc42t,e1,e2,hs]
  ·exact o1 46 49
  ·exact gw 47 50 hc47t 1 nt
  ·exact gc 47 50 hc47t 48 51 fun _ hR=>(vA.next hR).cell (j:=6) (by omega)
  ·exact OpOk.gd rr 47 50 true true (b49) (fun _ _ h=>h) c47t hc47t _ (fun _=>rfl) fun ev w' v hR E pr hC=>by
    have e1:=E.was 1 _;exact bD rfl e1 (vA.next hR)
  ·exact OpOk.gdCall 47 50 true true (b49) (fun _ _ h=>h) c47t hc47t _ (fun _=>rfl) fun ev w' v hR E pr hC=>by
    have e1:=E.eq pr 50 53;rw[hC]at e1;refine⟨46,#[aX n s],by simp[go_sem,gv,e1,E.fn],?_⟩;exact gD n s hz.l _
  ·exact g2 47 50 hc47t 49 52 51 54 qb55
  ·exact oq rfl fun ev w' v hR E pr=>by
    have e1:=E.eq pr 47 50;have e2:=E.eq pr 52 55;rcases bq (b49) with hs|hs<;>simp[go_sem,E.con,qb56,gv,hc47t,e1,e2,hs]
  ·exact o1 53 56
  ·exact OpOk.gd rr 54 57 true true (b56) (fun _ _ h=>h) c54t hc54t _ (fun _=>rfl) fun ev w' v hR E pr hC=>by
    have e1:=E.was 1 _;exact bD rfl e1 (vA.next hR)
  ·exact OpOk.gdCall 54 57 true true (b56) (fun _ _ h=>h) c54t hc54t _ (fun _=>rfl) fun ev w' v hR E pr hC=>by
    have e1:=E.eq pr 55 58;rw[hC]at e1;refine⟨47,#[aX n s],by simp[go_sem,gv,e1,E.fn],?_⟩;rw[qb59];exact D1 n s hz (by simp[hc54t,qb5,qb9,qb10,qb15,qb16,qb20,qb21,qb25,qb26,qb30,qb35,qb36,qb37,qb43,qb44,qb48,qb49,qb55,qb56]at hC;omega) (by simp[hc54t,qb5,qb9,qb10,qb15,qb16,qb20,qb21,qb25,qb26,qb30,qb35,qb36,qb37,qb43,qb44,qb48,qb49,qb55,qb56]at hC;omega) _ (hM.next hR)
  ·exact oq rfl fun ev w' v hR E pr=>by
    have e1:=E.eq pr 54 57;have e2:=E.eq pr 56 59;rcases bq (b56) with hs|hs<;>simp[go_sem,E.con,qb60,gv,hc54t,e1,e2,hs]
  ·exact o1 57 60
 ·intro v w' hR hp
  obtain⟨_,_,_,_,_,_,_,_,_,_,_,_,_,_,_,_,_,_,_,_,_,_,_,_,_,_,_,_,_,_,_,_,_,_,_,_,_,_,_,_,_,_,_,_,_,_,_,_,_,_,_,_,_,_,_,_,_,_,p58,_⟩:=hp;replace p58:v 58=.bool b60:=p58;simp only[bF,Nat.zero_add,Nat.reduceAdd,p58,Act.put,sY,sZ,ss];go_wp2;go_ret;refine⟨?_,rt _ _ _ hb hR⟩
  have e:b60=bY n:=by
   simp only[qb5,qb9,qb10,qb15,qb16,qb20,qb21,qb25,qb26,qb30,qb35,qb36,qb37,qb43,qb44,qb48,qb49,qb55,qb56,qb59,qb60,bY];simp only[Bool.decide_and,Bool.and_assoc]
  rw[<-e];rfl
def gV(n:Nd)(m:Ms):Bool:=(m.to==n.id)&&((m.frm != n.id)&&(dS n.peers m.frm&&(decide (1<=m.kind)&&(decide (m.kind<=4)&&(decide (1<=m.term)&&(decide (m.term<=100000)&&(fJ m.ents&&decide (bM m.ents<=m.term))))))))
theorem fQ{P:Program}{Q:Exit->Act->World->Prop}{a:Act}{w:World}{x y:Code}(h:∀ K:Act->World->Prop,Hid (∀ a w,y.wp P Q a w->K a w)->x.wp P (Exit.then K Q) a w):(Code.seq x y).wp P Q a w:=wp_seq_k fun K hK=>h K hK
theorem P8(n:Nd)(s:NdS)(m:Ms)(eo:Option Addr)(ec:Nat)(hml:m.ents.length<=1048576)(hmx:∀ k,k<m.ents.length->(cS m.ents k).size<=1048576)(aL aE aO:Addr)(w:World)(hG:GlV w aL aE aO)(hr:LRow w 47 eo (dZ m.ents)):Calls Tryz.prog 31 #[aX n s,eS m eo ec] w fun e w'=>e=.returned (.bool (gV n m))/\RB w w':=by
 have hb:=rt _ _ _ (ra w (.cells (aJ n s).toArray 27)) (ra _ (.cells (bZ m eo ec).toArray 29));have vA:NdB _ w.heap.size n s:=(aH w n s).next (ra _ (.cells (bZ m eo ec).toArray 29));have vM:=bJ (w.alloc (.cells (aJ n s).toArray 27)) m eo ec;rw[World.size_alloc]at vM;replace hG:=hG.next hb;replace hr:=hr.next hb;go_enter Tryz.func31,Tryz.ntmps31;refine fQ fun K0 hK0=>?_
 go_wp2;refine hK0 _ _ ?_;clear hK0;refine fQ fun K1 hK1=>?_
 generalize ((w.alloc _).alloc _)=W at hb vA vM hG hr ⊢;obtain⟨b9,qb9⟩:∃ b:Bool,b=((m.to==n.id)):=⟨_,rfl⟩
 obtain⟨c5t,hc5t⟩:∃ c:Bool,c=(true&&((b9)==true)):=⟨_,rfl⟩
 obtain⟨b15,qb15⟩:∃ b:Bool,b=((m.frm != n.id)):=⟨_,rfl⟩
 obtain⟨b16,qb16⟩:∃ b:Bool,b=((b9&&b15)):=⟨_,rfl⟩
 obtain⟨c12t,hc12t⟩:∃ c:Bool,c=(true&&((b16)==true)):=⟨_,rfl⟩
 obtain⟨b21,qb21⟩:∃ b:Bool,b=(dS n.peers m.frm):=⟨_,rfl⟩
 obtain⟨b22,qb22⟩:∃ b:Bool,b=((b16&&b21)):=⟨_,rfl⟩
 obtain⟨c18t,hc18t⟩:∃ c:Bool,c=(true&&((b22)==true)):=⟨_,rfl⟩
 obtain⟨b26,qb26⟩:∃ b:Bool,b=(decide (1<=m.kind)):=⟨_,rfl⟩
 obtain⟨b27,qb27⟩:∃ b:Bool,b=((b22&&b26)):=⟨_,rfl⟩
 obtain⟨c23t,hc23t⟩:∃ c:Bool,c=(true&&((b27)==true)):=⟨_,rfl⟩
 obtain⟨b31,qb31⟩:∃ b:Bool,b=(decide (m.kind<=4)):=⟨_,rfl⟩
 obtain⟨b32,qb32⟩:∃ b:Bool,b=((b27&&b31)):=⟨_,rfl⟩
 obtain⟨c28t,hc28t⟩:∃ c:Bool,c=(true&&((b32)==true)):=⟨_,rfl⟩
 obtain⟨b36,qb36⟩:∃ b:Bool,b=(decide (1<=m.term)):=⟨_,rfl⟩
 obtain⟨b37,qb37⟩:∃ b:Bool,b=((b32&&b36)):=⟨_,rfl⟩
 obtain⟨c33t,hc33t⟩:∃ c:Bool,c=(true&&((b37)==true)):=⟨_,rfl⟩
 obtain⟨b41,qb41⟩:∃ b:Bool,b=(decide (m.term<=100000)):=⟨_,rfl⟩
 obtain⟨b42,qb42⟩:∃ b:Bool,b=((b37&&b41)):=⟨_,rfl⟩
 obtain⟨c38t,hc38t⟩:∃ c:Bool,c=(true&&((b42)==true)):=⟨_,rfl⟩
 obtain⟨b48,qb48⟩:∃ b:Bool,b=(fJ m.ents&&decide (bM m.ents<=m.term)):=⟨_,rfl⟩
 obtain⟨b49,qb49⟩:∃ b:Bool,b=((b42&&b48)):=⟨_,rfl⟩
 refine hU (by kernel_rfl) RB rr rt [isV (.pointer (some ⟨w.heap.size+1,3,none⟩)),isV (.int .i64 m.to),isV (.pointer (some ⟨w.heap.size,0,none⟩)),isV (.int .i64 n.id),isV (.bool b9),isV (.bool b9),isV (gv c5t (.pointer (some ⟨w.heap.size+1,2,none⟩))),isV (gv c5t (.int .i64 m.frm)),isV (gv c5t (.pointer (some ⟨w.heap.size,0,none⟩))),isV (gv c5t (.int .i64 n.id)),isV (gv c5t (.bool b15)),isV (.bool b16),isV (.bool b16),isV (gv c12t (aX n s)),isV (gv c12t (.pointer (some ⟨w.heap.size+1,2,none⟩))),isV (gv c12t (.int .i64 m.frm)),isV (gv c12t (.bool b21)),isV (.bool b22),isV (.bool b22),isV (gv c18t (.pointer (some ⟨w.heap.size+1,0,none⟩))),isV (gv c18t (.int .i64 m.kind)),isV (gv c18t (.bool b26)),isV (.bool b27),isV (.bool b27),isV (gv c23t (.pointer (some ⟨w.heap.size+1,0,none⟩))),isV (gv c23t (.int .i64 m.kind)),isV (gv c23t (.bool b31)),isV (.bool b32),isV (.bool b32),isV (gv c28t (.pointer (some ⟨w.heap.size+1,1,none⟩))),isV (gv c28t (.int .i64 m.term)),isV (gv c28t (.bool b36)),isV (.bool b37),isV (.bool b37),isV (gv c33t (.pointer (some ⟨w.heap.size+1,1,none⟩))),isV (gv c33t (.int .i64 m.term)),isV (gv c33t (.bool b41)),isV (.bool b42),isV (.bool b42),isV (gv c38t (.pointer (some ⟨w.heap.size+1,6,none⟩))),isV (gv c38t (.slice eo m.ents.length ec)),isV (gv c38t (.pointer (some ⟨w.heap.size+1,1,none⟩))),isV (gv c38t (.int .i64 m.term)),isV (gv c38t (.bool b48)),isV (.bool b49),isV (.bool b49)] ⟨iR,iR,iR,iR,iR,iR,iR,iR,iR,iR,iR,iR,iR,iR,iR,iR,iR,iR,iR,iR,iR,iR,iR,iR,iR,iR,iR,iR,iR,iR,iR,iR,iR,iR,iR,iR,iR,iR,iR,iR,iR,iR,iR,iR,iR,iR,trivial⟩ rfl ?_ ?_
 ·refine⟨?_,?_,?_,?_,?_,?_,?_,?_,?_,?_,?_,?_,?_,?_,?_,?_,?_,?_,?_,?_,?_,?_,?_,?_,?_,?_,?_,?_,?_,?_,?_,?_,?_,?_,?_,?_,?_,?_,?_,?_,?_,?_,?_,?_,?_,?_,trivial⟩
  ·exact ow 3
  ·exact oc 0 5 fun _ hR=>(vM.next hR).cell (j:=3) (by omega)
  ·exact ow 2
  ·exact oc 2 7 fun _ hR=>(vA.next hR).cell (j:=0) (by omega)
  ·exact zS 1 6 3 8 qb9
  ·exact o1 4 9
  ·exact gw 5 10 hc5t 3 nt
  ·exact gc 5 10 hc5t 6 11 fun _ hR=>(vM.next hR).cell (j:=2) (by omega)
  ·exact gw 5 10 hc5t 2 nt
  ·exact gc 5 10 hc5t 8 13 fun _ hR=>(vA.next hR).cell (j:=0) (by omega)
  ·exact g2 5 10 hc5t 7 12 9 14 qb15
  ·exact oq rfl fun ev w' v hR E pr=>by
    have e1:=E.eq pr 5 10;have e2:=E.eq pr 10 15;rcases bq (b9) with hs|hs<;>simp[go_sem,E.con,qb16,gv,hc5t,e1,e2,hs]
  ·exact o1 11 16
  ·exact OpOk.gd rr 12 17 true true (b16) (fun _ _ h=>h) c12t hc12t _ (fun _=>rfl) fun ev w' v hR E pr hC=>by
    have e1:=E.was 2 _;exact bD rfl e1 (vA.next hR)
  ·exact gw 12 17 hc12t 3 nt
  ·exact gc 12 17 hc12t 14 19 fun _ hR=>(vM.next hR).cell (j:=2) (by omega)
  ·exact OpOk.gdCall 12 17 true true (b16) (fun _ _ h=>h) c12t hc12t _ (fun _=>rfl) fun ev w' v hR E pr hC=>by
    have e1:=E.eq pr 13 18;have e2:=E.eq pr 15 20;rw[hC]at e1;rw[hC]at e2;refine⟨44,#[aX n s,.int .i64 m.frm],by simp[go_sem,gv,e1,e2,E.fn],?_⟩;rw[qb21];exact iV n s m.frm _
  ·exact oq rfl fun ev w' v hR E pr=>by
    have e1:=E.eq pr 12 17;have e2:=E.eq pr 16 21;rcases bq (b16) with hs|hs<;>simp[go_sem,E.con,qb22,gv,hc12t,e1,e2,hs]
  ·exact o1 17 22
  ·exact gw 18 23 hc18t 3 nt
  ·exact gc 18 23 hc18t 19 24 fun _ hR=>(vM.next hR).cell (j:=0) (by omega)
  ·exact g1 18 23 hc18t 20 25 qb26
  ·exact oq rfl fun ev w' v hR E pr=>by
    have e1:=E.eq pr 18 23;have e2:=E.eq pr 21 26;rcases bq (b22) with hs|hs<;>simp[go_sem,E.con,qb27,gv,hc18t,e1,e2,hs]
  ·exact o1 22 27
  ·exact gw 23 28 hc23t 3 nt
  ·exact gc 23 28 hc23t 24 29 fun _ hR=>(vM.next hR).cell (j:=0) (by omega)
  ·exact g1 23 28 hc23t 25 30 qb31
  ·exact oq rfl fun ev w' v hR E pr=>by
    have e1:=E.eq pr 23 28;have e2:=E.eq pr 26 31;rcases bq (b27) with hs|hs<;>simp[go_sem,E.con,qb32,gv,hc23t,e1,e2,hs]
  ·exact o1 27 32
  ·exact gw 28 33 hc28t 3 nt
  ·exact gc 28 33 hc28t 29 34 fun _ hR=>(vM.next hR).cell (j:=1) (by omega)
  ·exact g1 28 33 hc28t 30 35 qb36
  ·exact oq rfl fun ev w' v hR E pr=>by
    have e1:=E.eq pr 28 33;have e2:=E.eq pr 31 36;rcases bq (b32) with hs|hs<;>simp[go_sem,E.con,qb37,gv,hc28t,e1,e2,hs]
  ·exact o1 32 37
  ·exact gw 33 38 hc33t 3 nt
  ·exact gc 33 38 hc33t 34 39 fun _ hR=>(vM.next hR).cell (j:=1) (by omega)
  ·exact g1 33 38 hc33t 35 40 qb41
  ·exact oq rfl fun ev w' v hR E pr=>by
    have e1:=E.eq pr 33 38;have e2:=E.eq pr 36 41;rcases bq (b37) with hs|hs<;>simp[go_sem,E.con,qb42,gv,hc33t,e1,e2,hs]
  ·exact o1 37 42
  ·exact gw 38 43 hc38t 3 nt
  ·exact gc 38 43 hc38t 39 44 fun _ hR=>(vM.next hR).cell (j:=6) (by omega)
  ·exact gw 38 43 hc38t 3 nt
  ·exact gc 38 43 hc38t 41 46 fun _ hR=>(vM.next hR).cell (j:=1) (by omega)
  ·exact OpOk.gdCall 38 43 true true (b42) (fun _ _ h=>h) c38t hc38t _ (fun _=>rfl) fun ev w' v hR E pr hC=>by
    have e1:=E.eq pr 40 45;have e2:=E.eq pr 42 47;rw[hC]at e1;rw[hC]at e2;refine⟨45,#[.slice eo m.ents.length ec,.int .i64 m.term],by simp[go_sem,gv,e1,e2,E.fn],?_⟩;rw[qb48];exact nT eo ec m.ents m.term aL aE aO hml hmx _ (hG.next hR) (hr.next hR)
  ·exact oq rfl fun ev w' v hR E pr=>by
    have e1:=E.eq pr 38 43;have e2:=E.eq pr 43 48;rcases bq (b42) with hs|hs<;>simp[go_sem,E.con,qb49,gv,hc38t,e1,e2,hs]
  ·exact o1 44 49
 ·intro v w' hR hp
  obtain⟨_,_,_,_,_,_,_,_,_,_,_,_,_,_,_,_,_,_,_,_,_,_,_,_,_,_,_,_,_,_,_,_,_,_,_,_,_,_,_,_,_,_,_,_,_,p45,_⟩:=hp;replace p45:v 45=.bool b49:=p45;simp only[bF,Nat.zero_add,Nat.reduceAdd,p45,Act.put,sY,sZ,ss];refine hK1 _ _ ?_;clear hK1;go_wp2;go_ret;refine⟨?_,rt _ _ _ hb hR⟩
  have e:b49=gV n m:=by
   simp only[qb9,qb15,qb16,qb21,qb22,qb26,qb27,qb31,qb32,qb36,qb37,qb41,qb42,qb48,qb49,gV];simp only[Bool.and_assoc]
  rw[<-e];rfl
theorem jD{w w':World}{b:Option Nat}(h:RB w w'):w.grownBy w' b:=⟨h.os,h.tape,h.output,h.size,fun k hk _=>h.block k hk⟩
theorem lI(n:Nd)(s:NdS)(hz:n.votes.length<=1048576)(w:World):Calls Tryz.prog 53 #[aX n s] w fun e w'=>e=.returned (.bool (fM n.peers n.votes.length))/\RB w w':=by
 have hb:=ra w (.cells (aJ n s).toArray 27);have vA:=aH w n s;obtain⟨c0,c1,c2,c3,c4,c5,c6,c7,c8,c9⟩:=vA.c10;simp[lf]at c0 c1 c2 c3 c4 c5 c6 c7 c8 c9;have hw:IntKind.i64.wrap (2*(n.votes.length:Int))=2*(n.votes.length:Int):=wi
 go_enter Tryz.func53,Tryz.ntmps53
 by_cases h:n.peers<2*(n.votes.length:Int)
 ·have e1:fM n.peers n.votes.length=true:=by simp[fM,h]
  go_wp2;go_ret;exact⟨by first|rfl|(rw[e1];rfl),hb⟩
 ·have e1:fM n.peers n.votes.length=false:=by simp only[fM,decide_eq_false_iff_not];exact h
  go_wp2;go_ret;exact⟨by first|rfl|(rw[e1];rfl),hb⟩
theorem AQ{w:World}{base:Nat}{n:Nd}{lo:Option Addr}{lc b1 b2 b3:Nat}(hl:OwE w base lo lc n.log)(h1:OwI w base (some ⟨b1,0,none⟩) 0 [])(h2:OwI w base (some ⟨b2,0,none⟩) 0 [])(h3:OwI w base (some ⟨b3,0,none⟩) 0 [])(e1:b1≠b2)(e2:b1≠b3)(e3:b2≠b3):NdO w base (bV n) ⟨lo,lc,some ⟨b1,0,none⟩,0,some ⟨b2,0,none⟩,0,some ⟨b3,0,none⟩,0⟩:=
 ⟨hl,h1,h2,h3,fun b e q=>e1 ((oI e).trans (oI q).symm),fun b e q=>e2 ((oI e).trans (oI q).symm),fun b e q=>e3 ((oI e).trans (oI q).symm)⟩
def FV(n:Nd):Nd:=⟨n.id,n.peers,n.term,n.vote,n.log,1,n.commit,n.votes,n.next,n.mat⟩
def FW(n:Nd):Nd:=⟨n.id,n.peers,n.term,n.vote,n.log,1,n.commit,[],n.next,n.mat⟩
def FX(n:Nd):Nd:=⟨n.id,n.peers,n.term,n.vote,n.log,1,n.commit,[],[],n.mat⟩
theorem fB(n:Nd)(s:NdS)(b base:Nat)(w:World)(hbs:base<=w.heap.size)(vB:NdB w b n s)(hO:NdO w base n s):Calls Tryz.prog 79 #[.pointer (some ⟨b,0,none⟩)] w fun e w'=>e=.returned (.tuple #[])/\∃ s',NdB w' b (bV n) s'/\NdO w' base (bV n) s'/\w.grownBy w' (some b):=by
 obtain⟨lo,lc,vo,vc,no,nc,mo,mc⟩:=s;obtain⟨f0,f1,f2,f3,f4,f5,f6,f7,f8,f9⟩:=cN vB;have hlt:=vB.lt;go_enter Tryz.func79,Tryz.ntmps79
 go_wp2_with (first|((with_reducible refine wN 2 (.tmp 4) (.const (.int .i64 1)) (b) 5 (.int .i64 1) (FV n) (⟨lo,lc,vo,vc,no,nc,mo,mc⟩) vB ?_);intro Wa va ga;clear f0 f1 f2 f3 f4 f5 f6 f7 f8 f9;have hha:=ra Wa (.cells #[] 2);have va2:NdB (Wa.alloc (.cells #[] 2)) b (FV n) ⟨lo,lc,vo,vc,no,nc,mo,mc⟩:=vn va hha;obtain⟨f0,f1,f2,f3,f4,f5,f6,f7,f8,f9⟩:=VHas.c10 va2;simp[lf,FV]at f0 f1 f2 f3 f4 f5 f6 f7 f8 f9)|((with_reducible refine wN 25 (.tmp 8) (.tmp 6) (b) 7 (.slice (some ⟨Wa.heap.size,0,none⟩) 0 0) (FW n) (⟨lo,lc,some ⟨Wa.heap.size,0,none⟩,0,no,nc,mo,mc⟩) va2 ?_);intro Wb vb gb;clear f0 f1 f2 f3 f4 f5 f6 f7 f8 f9;have hhb:=ra Wb (.cells #[] 2);have vb2:NdB (Wb.alloc (.cells #[] 2)) b (FW n) ⟨lo,lc,some ⟨Wa.heap.size,0,none⟩,0,no,nc,mo,mc⟩:=vn vb hhb;obtain⟨f0,f1,f2,f3,f4,f5,f6,f7,f8,f9⟩:=VHas.c10 vb2;simp[lf,FW]at f0 f1 f2 f3 f4 f5 f6 f7 f8 f9)|((with_reducible refine wN 25 (.tmp 12) (.tmp 10) (b) 8 (.slice (some ⟨Wb.heap.size,0,none⟩) 0 0) (FX n) (⟨lo,lc,some ⟨Wa.heap.size,0,none⟩,0,some ⟨Wb.heap.size,0,none⟩,0,mo,mc⟩) vb2 ?_);intro Wc vc gc;clear f0 f1 f2 f3 f4 f5 f6 f7 f8 f9;have hhc:=ra Wc (.cells #[] 2);have vc2:NdB (Wc.alloc (.cells #[] 2)) b (FX n) ⟨lo,lc,some ⟨Wa.heap.size,0,none⟩,0,some ⟨Wb.heap.size,0,none⟩,0,mo,mc⟩:=vn vc hhc;obtain⟨f0,f1,f2,f3,f4,f5,f6,f7,f8,f9⟩:=VHas.c10 vc2;simp[lf,FX]at f0 f1 f2 f3 f4 f5 f6 f7 f8 f9)|((with_reducible refine wN 25 (.tmp 16) (.tmp 14) (b) 9 (.slice (some ⟨Wc.heap.size,0,none⟩) 0 0) (bV n) (⟨lo,lc,some ⟨Wa.heap.size,0,none⟩,0,some ⟨Wb.heap.size,0,none⟩,0,some ⟨Wc.heap.size,0,none⟩,0⟩) vc2 ?_);intro Wd vd gd)|fail)
 simp[bodyPost,results,Tryz.results79,go_sem];have sa:=ga.size;have sb:=gb.size;have sc:=gc.size;simp only[World.size_alloc]at sb sc;have e1:OwI (Wa.alloc (.cells #[] 2)) Wa.heap.size (some ⟨Wa.heap.size,0,none⟩) 0 []:=GOwn.empty Wa 2 1 _;have e2:OwI (Wb.alloc (.cells #[] 2)) Wb.heap.size (some ⟨Wb.heap.size,0,none⟩) 0 []:=GOwn.empty Wb 2 1 _;have e3:OwI (Wc.alloc (.cells #[] 2)) Wc.heap.size (some ⟨Wc.heap.size,0,none⟩) 0 []:=GOwn.empty Wc 2 1 _;have o1:=(((((OwI.gr e1 gb (bA va2) (by decide)).next hhb).gr gc (bA vb2) (by decide)).next hhc).gr gd (bA vc2) (by decide)).from (show base ≤ _ by omega)
 have o2:=(((OwI.gr e2 gc (bA vb2) (by decide)).next hhc).gr gd (bA vc2) (by decide)).from (show base ≤ _ by omega)
 have o3:=(OwI.gr e3 gd (bA vc2) (by decide)).from (show base ≤ _ by omega)
 have ol:=((((((OwE.gr hO.l ga (bA vB) (by decide)).next hha).gr gb (bA va2) (by decide)).next hhb).gr gc (bA vb2) (by decide)).next hhc).gr gd (bA vc2) (by decide);exact⟨_,vd,AQ ol o1 o2 o3 (by omega) (by omega) (by omega),(((((ga.trans (jD hha)).trans gb).trans (jD hhb)).trans gc).trans (jD hhc)).trans gd⟩
theorem gO(n:Nd)(s:NdS)(m:Ms)(eo:Option Addr)(ec:Nat)(hp:1<=n.peers/\n.peers<=5)(hml:m.ents.length<=1048576)(hmx:∀ k,k<m.ents.length->(cS m.ents k).size<=1048576)(w:World)(hr:LRow w 47 eo (dZ m.ents)):Calls Tryz.prog 78 #[aX n s,eS m eo ec] w fun e w'=>e=.returned (.bool (gV n m))/\RB w w':=by
 have hb:=rt _ _ _ (ra w (.cells (aJ n s).toArray 27)) (ra _ (.cells (bZ m eo ec).toArray 29));have vA:NdB _ w.heap.size n s:=(aH w n s).next (ra _ (.cells (bZ m eo ec).toArray 29));have vM:=bJ (w.alloc (.cells (aJ n s).toArray 27)) m eo ec;rw[World.size_alloc]at vM;replace hr:=hr.next hb;go_enter Tryz.func78,Tryz.ntmps78;refine aW fun K0 hK0=>?_
 go_wp2;refine hK0.out _ _ ?_;clear hK0;refine aW fun K1 hK1=>?_
 generalize ((w.alloc _).alloc _)=W at hb vA vM hr ⊢;have hd:RB W W.drew:=(Below.refl _ _).drew;replace hb:=rt _ _ _ hb hd;replace vA:NdB W.drew w.heap.size n s:=vn vA hd;replace vM:MsB W.drew (w.heap.size+1) m eo ec:=vn vM hd;replace hr:=hr.next hd;clear hd;obtain⟨b9,qb9⟩:∃ b:Bool,b=((m.to==n.id)):=⟨_,rfl⟩
 obtain⟨c5t,hc5t⟩:∃ c:Bool,c=(true&&((b9)==true)):=⟨_,rfl⟩
 obtain⟨b15,qb15⟩:∃ b:Bool,b=((m.frm != n.id)):=⟨_,rfl⟩
 obtain⟨b16,qb16⟩:∃ b:Bool,b=((b9&&b15)):=⟨_,rfl⟩
 obtain⟨c12t,hc12t⟩:∃ c:Bool,c=(true&&((b16)==true)):=⟨_,rfl⟩
 obtain⟨b22,qb22⟩:∃ b:Bool,b=(dS (n.peers) (m.frm)):=⟨_,rfl⟩
 obtain⟨b23,qb23⟩:∃ b:Bool,b=((b16&&b22)):=⟨_,rfl⟩
 obtain⟨c19t,hc19t⟩:∃ c:Bool,c=(true&&((b23)==true)):=⟨_,rfl⟩
 obtain⟨b27,qb27⟩:∃ b:Bool,b=(dD (m.kind) (1) (4)):=⟨_,rfl⟩
 obtain⟨b28,qb28⟩:∃ b:Bool,b=((b23&&b27)):=⟨_,rfl⟩
 obtain⟨c24t,hc24t⟩:∃ c:Bool,c=(true&&((b28)==true)):=⟨_,rfl⟩
 obtain⟨b32,qb32⟩:∃ b:Bool,b=(dD (m.term) (1) (100000)):=⟨_,rfl⟩
 obtain⟨b33,qb33⟩:∃ b:Bool,b=((b28&&b32)):=⟨_,rfl⟩
 obtain⟨c29t,hc29t⟩:∃ c:Bool,c=(true&&((b33)==true)):=⟨_,rfl⟩
 obtain⟨b37,qb37⟩:∃ b:Bool,b=(fJ m.ents):=⟨_,rfl⟩
 obtain⟨b38,qb38⟩:∃ b:Bool,b=((b33&&b37)):=⟨_,rfl⟩
 obtain⟨c34t,hc34t⟩:∃ c:Bool,c=(true&&((b38)==true)):=⟨_,rfl⟩
 obtain⟨b45,qb45⟩:∃ b:Bool,b=(decide ((bM m.ents)<=m.term)):=⟨_,rfl⟩
 obtain⟨b46,qb46⟩:∃ b:Bool,b=((b38&&b45)):=⟨_,rfl⟩
 refine bQ (by kernel_rfl) (by kernel_rfl) RB rr rt
  [isV (.pointer (some ⟨w.heap.size+1,3,none⟩)),isV (.int .i64 m.to),isV (.pointer (some ⟨w.heap.size,0,none⟩)),isV (.int .i64 n.id),isV (.bool b9),isV (.bool b9),isV (gv c5t (.pointer (some ⟨w.heap.size+1,2,none⟩))),isV (gv c5t (.int .i64 m.frm)),isV (gv c5t (.pointer (some ⟨w.heap.size,0,none⟩))),isV (gv c5t (.int .i64 n.id)),isV (gv c5t (.bool b15)),isV (.bool b16),isV (.bool b16),isV (gv c12t (.pointer (some ⟨w.heap.size+1,2,none⟩))),isV (gv c12t (.int .i64 m.frm)),isV (gv c12t (.pointer (some ⟨w.heap.size,1,none⟩))),isV (gv c12t (.int .i64 n.peers)),isV (gv c12t (.bool b22)),isV (.bool b23),isV (.bool b23),isV (gv c19t (.pointer (some ⟨w.heap.size+1,0,none⟩))),isV (gv c19t (.int .i64 m.kind)),isV (gv c19t (.bool b27)),isV (.bool b28),isV (.bool b28),isV (gv c24t (.pointer (some ⟨w.heap.size+1,1,none⟩))),isV (gv c24t (.int .i64 m.term)),isV (gv c24t (.bool b32)),isV (.bool b33),isV (.bool b33),isV (gv c29t (.pointer (some ⟨w.heap.size+1,6,none⟩))),isV (gv c29t (.slice eo m.ents.length ec)),isV (gv c29t (.bool b37)),isV (.bool b38),isV (.bool b38),isV (gv c34t (.pointer (some ⟨w.heap.size+1,6,none⟩))),isV (gv c34t (.slice eo m.ents.length ec)),isV (gv c34t (.int .i64 (bM m.ents))),isV (gv c34t (.pointer (some ⟨w.heap.size+1,1,none⟩))),isV (gv c34t (.int .i64 m.term)),isV (gv c34t (.bool b45)),isV (.bool b46),isV (.bool b46)]
  ⟨iR,iR,iR,iR,iR,iR,iR,iR,iR,iR,iR,iR,iR,iR,iR,iR,iR,iR,iR,iR,iR,iR,iR,iR,iR,iR,iR,iR,iR,iR,iR,iR,iR,iR,iR,iR,iR,iR,iR,iR,iR,iR,iR,trivial⟩ rfl ?_ ?_
 ·refine⟨?_,?_,?_,?_,?_,?_,?_,?_,?_,?_,?_,?_,?_,?_,?_,?_,?_,?_,?_,?_,?_,?_,?_,?_,?_,?_,?_,?_,?_,?_,?_,?_,?_,?_,?_,?_,?_,?_,?_,?_,?_,?_,?_,trivial⟩
  ·exact ow 3
  ·exact oc 0 5 fun _ hR=>(vM.next hR).cell (j:=3) (by omega)
  ·exact ow 2
  ·exact oc 2 7 fun _ hR=>(vA.next hR).cell (j:=0) (by omega)
  ·exact zS 1 6 3 8 qb9
  ·exact o1 4 9
  ·exact gw 5 10 hc5t 3 nt
  ·exact gc 5 10 hc5t 6 11 fun _ hR=>(vM.next hR).cell (j:=2) (by omega)
  ·exact gw 5 10 hc5t 2 nt
  ·exact gc 5 10 hc5t 8 13 fun _ hR=>(vA.next hR).cell (j:=0) (by omega)
  ·exact g2 5 10 hc5t 7 12 9 14 qb15
  ·exact oq rfl fun ev w' v hR E pr=>by
    have e1:=E.eq pr 5 10;have e2:=E.eq pr 10 15;rcases bq (b9) with hs|hs<;>simp[go_sem,E.con,qb16,gv,hc5t,e1,e2,hs]
  ·exact o1 11 16
  ·exact gw 12 17 hc12t 3 nt
  ·exact gc 12 17 hc12t 13 18 fun _ hR=>(vM.next hR).cell (j:=2) (by omega)
  ·exact gw 12 17 hc12t 2 nt
  ·exact gc 12 17 hc12t 15 20 fun _ hR=>(vA.next hR).cell (j:=1) (by omega)
  ·exact OpOk.gdCall 12 17 true true (b16) (fun _ _ h=>h) c12t hc12t _ (fun _=>rfl) fun ev w' v hR E pr hC=>by
    have e1:=E.eq pr 14 19;have e2:=E.eq pr 16 21;rw[hC]at e1;rw[hC]at e2;refine⟨41,#[.int .i64 m.frm,.int .i64 n.peers],by simp[go_sem,gv,e1,e2,E.fn],?_⟩;rw[qb22];exact iX (m.frm) (n.peers) hp.1 hp.2 _
  ·exact oq rfl fun ev w' v hR E pr=>by
    have e1:=E.eq pr 12 17;have e2:=E.eq pr 17 22;rcases bq (b16) with hs|hs<;>simp[go_sem,E.con,qb23,gv,hc12t,e1,e2,hs]
  ·exact o1 18 23
  ·exact gw 19 24 hc19t 3 nt
  ·exact gc 19 24 hc19t 20 25 fun _ hR=>(vM.next hR).cell (j:=0) (by omega)
  ·exact OpOk.gdCall 19 24 true true (b23) (fun _ _ h=>h) c19t hc19t _ (fun _=>rfl) fun ev w' v hR E pr hC=>by
    have e1:=E.eq pr 21 26;rw[hC]at e1;refine⟨40,#[.int .i64 m.kind,.int .i64 1,.int .i64 4],by simp[go_sem,gv,e1,E.con,E.fn],?_⟩;rw[qb27];exact bS (m.kind) (1) (4) _
  ·exact oq rfl fun ev w' v hR E pr=>by
    have e1:=E.eq pr 19 24;have e2:=E.eq pr 22 27;rcases bq (b23) with hs|hs<;>simp[go_sem,E.con,qb28,gv,hc19t,e1,e2,hs]
  ·exact o1 23 28
  ·exact gw 24 29 hc24t 3 nt
  ·exact gc 24 29 hc24t 25 30 fun _ hR=>(vM.next hR).cell (j:=1) (by omega)
  ·exact OpOk.gdCall 24 29 true true (b28) (fun _ _ h=>h) c24t hc24t _ (fun _=>rfl) fun ev w' v hR E pr hC=>by
    have e1:=E.eq pr 26 31;rw[hC]at e1;refine⟨40,#[.int .i64 m.term,.int .i64 1,.int .i64 100000],by simp[go_sem,gv,e1,E.con,E.fn],?_⟩;rw[qb32];exact bS (m.term) (1) (100000) _
  ·exact oq rfl fun ev w' v hR E pr=>by
    have e1:=E.eq pr 24 29;have e2:=E.eq pr 27 32;rcases bq (b28) with hs|hs<;>simp[go_sem,E.con,qb33,gv,hc24t,e1,e2,hs]
  ·exact o1 28 33
  ·exact gw 29 34 hc29t 3 nt
  ·exact gc 29 34 hc29t 30 35 fun _ hR=>(vM.next hR).cell (j:=6) (by omega)
  ·exact OpOk.gdCall 29 34 true true (b33) (fun _ _ h=>h) c29t hc29t _ (fun _=>rfl) fun ev w' v hR E pr hC=>by
    have e1:=E.eq pr 31 36;rw[hC]at e1;refine⟨42,#[.slice eo m.ents.length ec],by simp[go_sem,gv,e1,E.fn],?_⟩;rw[qb37];exact qJ eo ec m.ents hml hmx _ (hr.next hR)
  ·exact oq rfl fun ev w' v hR E pr=>by
    have e1:=E.eq pr 29 34;have e2:=E.eq pr 32 37;rcases bq (b33) with hs|hs<;>simp[go_sem,E.con,qb38,gv,hc29t,e1,e2,hs]
  ·exact o1 33 38
  ·exact gw 34 39 hc34t 3 nt
  ·exact gc 34 39 hc34t 35 40 fun _ hR=>(vM.next hR).cell (j:=6) (by omega)
  ·exact OpOk.gdCall 34 39 true true (b38) (fun _ _ h=>h) c34t hc34t _ (fun _=>rfl) fun ev w' v hR E pr hC=>by
    have e1:=E.eq pr 36 41;rw[hC]at e1;refine⟨43,#[.slice eo m.ents.length ec],by simp[go_sem,gv,e1,E.fn],?_⟩;exact oC eo ec m.ents hml _ (hr.next hR)
  ·exact gw 34 39 hc34t 3 nt
  ·exact gc 34 39 hc34t 38 43 fun _ hR=>(vM.next hR).cell (j:=1) (by omega)
  ·exact g2 34 39 hc34t 37 42 39 44 qb45
  ·exact oq rfl fun ev w' v hR E pr=>by
    have e1:=E.eq pr 34 39;have e2:=E.eq pr 40 45;rcases bq (b38) with hs|hs<;>simp[go_sem,E.con,qb46,gv,hc34t,e1,e2,hs]
  ·exact o1 41 46
 ·intro v w' hR hp
  obtain⟨_,_,_,_,_,_,_,_,_,_,_,_,_,_,_,_,_,_,_,_,_,_,_,_,_,_,_,_,_,_,_,_,_,_,_,_,_,_,_,_,_,_,p42,_⟩:=hp;replace p42:v 42=.bool b46:=p42;simp only[bF,Nat.zero_add,Nat.reduceAdd,p42,Act.put,sY,sZ,ss];refine hK1.out _ _ ?_;clear hK1;go_wp2;go_ret;refine⟨?_,rt _ _ _ hb hR⟩
  have e:b46=gV n m:=by
   simp only[qb9,qb15,qb16,qb22,qb23,qb27,qb28,qb32,qb33,qb37,qb38,qb45,qb46,gV,dD,Bool.and_assoc]
  rw[<-e];rfl
end
section
open Go
section
variable {P:Program} {ops:Array Oper} {Q:Exit->Act->World->Prop}
end
section
variable {P:Program} {ops:Array Oper} {Q:Exit->Act->World->Prop}
def K9(ops:Array Oper):Bool:=cE ops.pop.pop&&(dV ops.pop&&((ops.all fun o=>o.guard.isNone)&&Nat.blt 1 ops.size))
theorem kD{id:Nat}{a0:Act}{w0:World}(hm:P.follows .mixedOrders=true)(hok:K9 ops=true)(R:World->World->Prop)(hR0:∀ w,R w w)(hRt:∀ u v w,R u v->R v w->R u w)(l:List (Value->World->Prop))(hPr:gI R l)(hll:l.length=ops.size-2)(o8 o9:Oper)(ho8:ops[ops.size-2]?=some o8)(ho9:ops[ops.size-1]?=some o9)(hw8:(o8.after.all fun e=>!Region.binds .any e||decide (e.on<ops.size-2))=true)(hw9:(o9.after.all fun e=>!Region.binds .any e||decide (e.on<ops.size-1))=true)(hw98:aK o9 (ops.size-2)=true)
  (hstep:oT P ops.pop.pop a0 w0.drew R (cJ l) 0 (ops.toList.take (ops.size-2)))
  (Fin:(Nat->Value)->Value->World->Prop)
  (hasg:∀ (ev:Operand->Value) (w':World) (v:Nat->Value),R w0.drew w'->EvOk ops.pop.pop a0 o8 v ev->uT v w' 0 l->∃ u w'',(execOp ev o8).run P w'=.ok (.value u) w''/\Fin v u w'')
  (hend:∀ v u w'',Fin v u w''->∃ u9,(execOp ((bF v 0 (ops.toList.take (ops.size-2)) a0).put o8.dst u).eval o9).run P w''=.ok (.value u9) w''/\Q .normal (((bF v 0 (ops.toList.take (ops.size-2)) a0).put o8.dst u).put o9.dst u9) w''):(Code.region id ops true).wp P Q a0 w0:=by
 simp only[K9,Bool.and_eq_true]at hok;obtain⟨hokp,haw,hgn,hblt⟩:=hok;have hN:1<ops.size:=nb hblt;have hps1:ops.pop.size=ops.size-1:=by simp
 have hps:ops.pop.pop.size=ops.size-2:=by simp;omega
 have hpop1:∀ (i:Nat),i<ops.size-1->ops.pop[i]?=ops[i]?:=fun i hi=>by
  rw[Array.getElem?_pop,if_pos hi]
 have hpop:∀ (i:Nat) (o:Oper),i<ops.size-2->ops[i]?=some o->ops.pop.pop[i]?=some o:=fun i o hi ho=>by
  rw[Array.getElem?_pop,if_pos (by rw[hps1];omega),hpop1 i (by omega)];exact ho
 have hpop':∀ (i:Nat) (o:Oper),ops.pop.pop[i]?=some o->i<ops.size-2/\ops[i]?=some o:=fun i o ho=>by
  have hl:i<ops.pop.pop.size:=(Array.getElem?_eq_some_iff.1 ho).1;rw[hps]at hl;rw[Array.getElem?_pop,if_pos (by rw[hps1];omega),hpop1 i (by omega)]at ho;exact⟨hl,ho⟩
 have hgd:∀ (i:Nat) (o:Oper),ops[i]?=some o->o.guard=none:=fun i o ho=>by
  have:=(Array.all_eq_true'.1 hgn) o (Array.mem_of_getElem? ho);cases h:o.guard with
  | none=>rfl
  | some g=>rw[h]at this;cases this
 have hwt:∀ (o:Oper) y,o.guard=none->Region.wanted o y=true:=fun o y h=>by unfold Region.wanted;rw[h]
 have hearly:∀ (i:Nat) (o:Oper),ops[i]?=some o->∀ j,aY o j->j<i:=fun i o ho j hj=>by
  have hl:i<ops.size:=(Array.getElem?_eq_some_iff.1 ho).1
  by_cases hi9:i=ops.size-1
  ·subst hi9
   rw[ho9]at ho;cases ho;obtain⟨e,he,hb,rfl⟩:=hj;have:=(Array.all_eq_true'.1 hw9) e he;simpa[hb] using this
  ·by_cases hi8:i=ops.size-2
   ·subst hi8
    rw[ho8]at ho;cases ho;obtain⟨e,he,hb,rfl⟩:=hj;have:=(Array.all_eq_true'.1 hw8) e he;simpa[hb] using this
   ·exact (bO hokp (hpop i o (by omega) ho)).1 j hj
 have hstep':∀ (i:Nat) (o:Oper),i<ops.size-2->ops[i]?=some o->OpOk P ops.pop.pop a0 w0.drew R (cJ l) i o:=fun i o hi ho=>by
  have:=mH hstep i o (by
   rw[List.getElem?_take,if_pos hi]
   simpa using ho)
  rw[Nat.zero_add]at this;exact this
 have hlist:∀ k,k<(ops.toList.take (ops.size-2)).length->(ops.toList.take (ops.size-2))[k]?=ops.pop.pop[0+k]?:=fun k hk=>by
  simp at hk;have hk2:k<ops.size-2:=by omega
  rw[List.getElem?_take,if_pos hk2,Nat.zero_add,Array.getElem?_pop,if_pos (by rw[hps1];omega),hpop1 k (by omega)];simp
 have full:∀ (listed:Array Bool),listed.size=ops.size->(∀ j,j<ops.size->listed.getD j false=true)->∀ fuel a w,Q .normal a w->wpAny P .any ops Q fuel listed a w:=by
  intro listed hsz hall fuel a w hq
  have hr:Region.ready .any ops listed=[]:=by
   rw[List.eq_nil_iff_forall_not_mem];intro j hj;obtain⟨h0,o,ho,_⟩:=mem_ready.1 hj;have hl:j<ops.size:=(Array.getElem?_eq_some_iff.1 ho).1;have h1:=hall j hl;have hl2:j<listed.size:=by omega
   simp[Array.getD,hl2]at h0 h1;rw[h0]at h1;cases h1
  cases fuel with
  | zero=>exact⟨hr,hq⟩
  | succ f=>exact⟨fun _=>hq,fun i hi=>by rw[hr]at hi;cases hi⟩
 -- the assign alone is left
 have last1:∀ (listed:Array Bool),listed.size=ops.size->(∀ j,j<ops.size-1->listed.getD j false=true)->listed.getD (ops.size-1) true=false->∀ fuel a w u9,uS ops listed<=fuel->(execOp a.eval o9).run P w=.ok (.value u9) w->Q .normal (a.put o9.dst u9) w->wpAny P .any ops Q fuel listed a w:=by
  intro listed hsz hall h9 fuel a w u9 hu hrun hq
  have hm9:ops.size-1∈Region.ready .any ops listed:=mem_ready.2 ⟨h9,o9,ho9,fun e he hb=>by
   have:=hearly _ o9 ho9 e.on ⟨e,he,hb,rfl⟩
   exact hall e.on this⟩
  cases fuel with
  | zero=>
   exfalso;have h0:(List.range ops.size).filter (fun i=>!listed.getD i true)=[]:=List.eq_nil_of_length_eq_zero (by unfold uS at hu;omega);have:ops.size-1∈(List.range ops.size).filter (fun i=>!listed.getD i true):=List.mem_filter.2 ⟨List.mem_range.2 (by omega),by rw[h9];rfl⟩;rw[h0]at this;cases this
  | succ f=>
   refine⟨fun hr=>(by rw[hr]at hm9;cases hm9),fun i hi=>?_⟩;obtain⟨h0,o,ho,_⟩:=mem_ready.1 hi;have hil:i<ops.size:=(Array.getElem?_eq_some_iff.1 ho).1
   have hi9:i=ops.size-1:=by
    by_cases q:i<ops.size-1
    ·have h1:=hall i q
     have hl2:i<listed.size:=by omega
     simp[Array.getD,hl2]at h0 h1;rw[h0]at h1;cases h1
    ·omega
   subst hi9;rw[ho9]at ho;cases ho;unfold wpOp;simp only[ho9];rw[if_pos (hwt _ _ (hgd _ _ ho9))]
   left
   unfold Oper.wp;rw[hrun];simp only[Oper.upon];refine full _ (by simp[hsz]) (fun j hj=>?_) _ _ _ hq
   by_cases hji:j=ops.size-1
   ·subst hji
    have hl:ops.size-1<listed.size:=by omega
    simp[Array.getD,hl]
   ·rw[getD_set_ne false (fun q=>hji q.symm)]
    exact hall j (by omega)
 have main:∀ (fuel:Nat) (listed:Array Bool) (a:Act) (w:World) (v:Nat->Value),listed.size=ops.size->uS ops listed<=fuel->R w0.drew w->Fr ops.pop.pop a0 (fun j=>listed.getD j false) v a->(∀ j,j<ops.size-2->listed.getD j false=true->cJ l j (v j) w)->listed.getD (ops.size-2) true=false->listed.getD (ops.size-1) true=false->(∀ (i:Nat) (o:Oper) (j:Nat),ops[i]?=some o->listed.getD i false=true->aY o j->listed.getD j false=true)->wpAny P .any ops Q fuel listed a w:=by
  intro fuel
  induction fuel with
  | zero=>
   intro listed a w v hsz hu hR hF hP hL8 hL9 hDC;exfalso;have h0:(List.range ops.size).filter (fun i=>!listed.getD i true)=[]:=List.eq_nil_of_length_eq_zero (by unfold uS at hu;omega);have:ops.size-1∈(List.range ops.size).filter (fun i=>!listed.getD i true):=List.mem_filter.2 ⟨List.mem_range.2 (by omega),by rw[hL9];rfl⟩;rw[h0]at this;cases this
  | succ fuel ih=>
   intro listed a w v hsz hu hR hF hP hL8 hL9 hDC
   have hL8f:listed.getD (ops.size-2) false=false:=by
    have hl:ops.size-2<listed.size:=by omega
    simp[Array.getD,hl]at hL8 ⊢;exact hL8
   have hL9f:listed.getD (ops.size-1) false=false:=by
    have hl:ops.size-1<listed.size:=by omega
    simp[Array.getD,hl]at hL9 ⊢;exact hL9
   have hrall:Region.ready .any ops listed=[]->∀ j,j<ops.size->listed.getD j true=true:=by
    intro hr j
    induction j using Nat.strongRecOn with
    | ind j ih=>
     intro hj;rcases bq (listed.getD j true) with q|q
     ·exact q
     ·exfalso
      have hoj:ops[j]?=some ops[j]:=by simp[hj]
      have hm:j∈Region.ready .any ops listed:=mem_ready.2 ⟨q,ops[j],hoj,fun e he hb=>by
       have hlt:=hearly j _ hoj e.on ⟨e,he,hb,rfl⟩;have h2:=ih e.on hlt (by omega);have:e.on<listed.size:=by omega
       simp[Array.getD,this]at h2 ⊢
       exact h2⟩
      rw[hr]at hm;cases hm
   refine⟨fun hr=>by
    exfalso;have:=hrall hr (ops.size-1) (by omega);rw[hL9]at this
    exact Bool.noConfusion this,fun i hi=>?_⟩
   obtain⟨h0,o,ho,hall⟩:=mem_ready.1 hi;have hil:i<ops.size:=(Array.getElem?_eq_some_iff.1 ho).1;have hsp:=hearly i o ho
   have h0f:listed.getD i false=false:=by
    have hl:i<listed.size:=by omega
    simp[hl]at h0 ⊢;exact h0
   have hw:∀ j,aY o j->listed.getD j false=true:=fun j ⟨e,he,hb,ej⟩=>by
    subst ej;exact hall e he hb
   by_cases hi9:i=ops.size-1
   ·exfalso
    have ho':o=o9:=by rw[hi9,ho9]at ho;exact (oI ho).symm
    have:=hw (ops.size-2) (by rw[ho'];exact aQ hw98);rw[hL8f]at this;cases this
   by_cases hi8:i=ops.size-2
   ·have ho':o=o8:=by rw[hi8,ho8]at ho;exact (oI ho).symm
    have hall9:∀ k j,j+1+k=ops.size-1->listed.getD j false=true\/j=ops.size-2:=by
     intro k
     induction k using Nat.strongRecOn with
     | ind k ihk=>
      intro j hjk
      by_cases hj9:j=ops.size-2
      ·exact .inr hj9
      ·left
       obtain⟨i2,o2,ho2,hlt2,hw2⟩:=fD haw (j:=j) (by rw[hps1];omega);have hi2:i2<ops.pop.size:=(Array.getElem?_eq_some_iff.1 ho2).1;rw[hps1]at hi2;rw[hpop1 i2 hi2]at ho2;rcases ihk (ops.size-1-(i2+1)) (by omega) i2 (by omega) with h1|h1
       ·exact hDC i2 o2 j ho2 h1 hw2
       ·subst h1
        rw[hi8,ho2]at ho;cases ho;exact hw j hw2
    have hall8:∀ j,j<ops.size-2->listed.getD j false=true:=fun j hj=>by
     rcases hall9 (ops.size-1-(j+1)) j (by omega) with h1|h1
     ·exact h1
     ·omega
    have hlen:(ops.toList.take (ops.size-2)).length=ops.size-2:=by simp
    have h1:Fr ops.pop.pop a0 (fun k=>decide (k<0+(ops.toList.take (ops.size-2)).length)) v a:=hF.congr (fun j hj=>by
     rw[hps]at hj;rw[hall8 j hj,hlen]
     simp[hj]) (fun _ _ _=>rfl)
    have h2:=lL hokp v a0 (ops.toList.take (ops.size-2)) 0 a0 hlist ((Fr.init a0 v).congr (fun j _=>by simp) (fun _ _ _=>rfl));have ea:=h1.uniq h2;rw[hlen,Nat.zero_add]at h1
    have hE:EvOk ops.pop.pop a0 o8 v a.eval:=by
     refine⟨fun j d hj hw' hlt=>?_,fun d hn=>?_,fun _=>rfl,fun _=>rfl,fun _=>rfl⟩
     ·cases hop:ops.pop.pop[j]? with
      | none=>rw[hop]at hj;cases hj
      | some p=>
       rw[hop]at hj;have hj1:j<ops.size-2:=(hpop' j p hop).1;have:=h1.done j p d hop (by simp[hj1]) hj hlt;simp[Act.eval,Array.getD_eq_getD_getElem?,this]
     ·have:=h1.rest d fun j p hj _=>dN hn j p hj
      simp[Act.eval,Array.getD_eq_getD_getElem?,this]
    obtain⟨u,w'',hr,hf⟩:=hasg a.eval w v hR hE (mG l 0 fun j hj=>by rw[Nat.zero_add];exact hP j (by omega) (hall8 j (by omega)));obtain⟨u9,hr9,hq9⟩:=hend v u w'' hf
    have hfull:∀ j,j<ops.size-1->(listed.setIfInBounds i true).getD j false=true:=fun j hj=>by
     by_cases hji:j=i
     ·subst hji
      have hl:j<listed.size:=by omega
      simp[Array.getD,hl]
     ·rw[getD_set_ne false (fun q=>hji q.symm)]
      exact hall8 j (by omega)
    have h9':(listed.setIfInBounds i true).getD (ops.size-1) true=false:=by
     rw[getD_set_ne true (fun q=>hi9 q)];exact hL9
    have hu':uS ops (listed.setIfInBounds i true)<=fuel:=by
     have:=kT (l:=List.range ops.size) List.nodup_range (f:=fun k=>!listed.getD k true) (g:=fun k=>!(listed.setIfInBounds i true).getD k true) (i:=i) (List.mem_range.2 hil) (by simp only[h0];rfl) (by
      have hl:i<listed.size:=by omega
      simp[hl]) (fun k hk=>by
      show (!(listed.setIfInBounds i true).getD k true) = !listed.getD k true
      rw[getD_set_ne true (fun q=>hk q.symm)])
     unfold uS at hu ⊢;omega
    unfold wpOp;simp only[ho];rw[if_pos (hwt o _ (hgd i o ho))]
    left
    subst ho';unfold Oper.wp;rw[hr];simp only[Oper.upon];rw[<-ea]at hr9 hq9;exact last1 _ (by simp[hsz]) hfull h9' _ _ _ u9 hu' hr9 hq9
   have hi':i<ops.size-2:=by omega
   have hS:=hstep' i o hi' ho a w v Q hR (fun j p d hj hd hlt hwj=>by
    have:=hF.done j p d hj (hw j hwj) hd hlt
    simp[Act.eval,Array.getD_eq_getD_getElem?,this]) (fun j hj hwj=>hP j (by rw[hps]at hj;exact hj) (hw j hwj)) (fun d hno=>by
    have:=hF.rest d fun j p hj _=>hno j p hj
    simp[Act.eval,Array.getD_eq_getD_getElem?,this])
   rw[if_pos (hwt o _ (hgd i o ho))]at hS
   have next:∀ u w',R w w'->cJ l i u w'->wpAny P .any ops Q fuel (listed.setIfInBounds i true) (a.put o.dst u) w':=fun u w' hR' hu'=>by
    refine ih _ _ _ (fun k=>if k=i then u else v k) (by simp[hsz]) ?_ (hRt _ _ _ hR hR') ?_ ?_ ?_ ?_ ?_
    ·have:=kT (l:=List.range ops.size) List.nodup_range (f:=fun k=>!listed.getD k true) (g:=fun k=>!(listed.setIfInBounds i true).getD k true) (i:=i) (List.mem_range.2 hil) (by simp only[h0];rfl) (by
      have hl:i<listed.size:=by omega
      simp[hl]) (fun k hk=>by
      show (!(listed.setIfInBounds i true).getD k true) = !listed.getD k true
      rw[getD_set_ne true (fun q=>hk q.symm)])
     unfold uS at hu ⊢;omega
    ·refine (hF.put hokp (hpop i o hi' ho) h0f u).congr (fun j hj=>?_) (fun _ _ _=>rfl)
     by_cases hji:j=i
     ·subst hji
      have hl:j<listed.size:=by omega
      simp[hl]
     ·simp only[hji,if_false]
      rw[getD_set_ne false (fun q=>hji q.symm)]
    ·intro j hj hdn
     by_cases hji:j=i
     ·subst hji;simp only[if_true];exact hu'
     ·simp only[hji,if_false]
      rw[getD_set_ne false (fun q=>hji q.symm)]at hdn;exact cC hPr _ _ _ _ (hP j hj hdn) hR'
    ·rw[getD_set_ne true (fun q=>hi8 q)]
     exact hL8
    ·rw[getD_set_ne true (fun q=>hi9 q)]
     exact hL9
    ·intro i2 o2 j ho2 h2 hw2
     by_cases hii:i2=i
     ·subst hii
      rw[ho]at ho2;cases ho2;have h3:=hw j hw2;have hne:i2≠j:=fun q=>by have:=hsp j hw2;omega
      rw[getD_set_ne false hne];exact h3
     ·rw[getD_set_ne false (fun q=>hii q.symm)]at h2
      have h3:=hDC i2 o2 j ho2 h2 hw2
      by_cases hji:j=i
      ·subst hji;rw[h0f]at h3;cases h3
      ·rw[getD_set_ne false (fun q=>hji q.symm)]
       exact h3
   unfold wpOp;simp only[ho];rw[if_pos (hwt o _ (hgd i o ho))];exact .inl (Oper.wp_mono (fun a' w' ⟨u,e,h1,h2⟩=>by rw[e];exact next u w' h1 h2) hS)
 refine wp_region_any hm ?_;refine main ops.size _ a0 _ (fun _=>undef) (by simp) ?_ (hR0 _) ?_ ?_ ?_ ?_ ?_
 ·unfold uS
  exact Nat.le_trans (List.length_filter_le _ _) (by simp)
 ·exact (Fr.init a0 _).congr (fun j hj=>by
   rw[hps]at hj;have:j<ops.size:=by omega
   simp[this]) (fun _ _ _=>rfl)
 ·intro j hj h
  have:j<ops.size:=by omega
  simp[this]at h
 ·have:ops.size-2<ops.size:=by omega
  simp[Array.getD,this]
 ·have:ops.size-1<ops.size:=by omega
  simp[Array.getD,this]
 ·intro i o j hi h
  have:=(Array.getElem?_eq_some_iff.1 hi).1;simp[this]at h
end
end
end Go.Proofs.YtbabakgjkloabaaGreatDoor
