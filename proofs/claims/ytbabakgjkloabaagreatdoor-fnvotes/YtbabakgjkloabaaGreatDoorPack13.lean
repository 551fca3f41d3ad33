/-
  Helpers: Ms7, Wpl, Ms8, Nd6, Ms9.
-/
import Derived.Test.YtbabakgjkloabaaGreatDoorPack12
set_option linter.unusedVariables false
set_option linter.unusedSimpArgs false
set_option maxRecDepth 100000
set_option maxHeartbeats 16000000
namespace Go.Proofs.YtbabakgjkloabaaGreatDoor
section
open Go Go.RowKit
attribute [local go_sem ↓] Go.wp_at_zero Go.wp_at_succ
def jW(k:Nat)(T:Nat->Int)(X:Nat->ByteArray):List En:=(List.range k).map (fun j=>⟨T j,X j⟩)
theorem dO(k:Nat)(T:Nat->Int)(X:Nat->ByteArray):(jW k T X).length=k:=by simp[jW]
theorem rF(k:Nat)(T:Nat->Int)(X:Nat->ByteArray)(j:Nat)(h:j<k*2):lf (dZ (jW k T X)) j=nr T X j:=by
 rw[wX _ _ (by rw[dO];exact h)];have hj:j / 2<k:=by omega
 have h1:cL (jW k T X) (j / 2)=T (j / 2):=by simp[cL,jW,hj]
 have h2:cS (jW k T X) (j / 2)=X (j / 2):=by simp[cS,jW,hj]
 unfold nr;rw[h1,h2]
theorem O3{w w':World}{ao:Option Addr}{k:Nat}{T:Nat->Int}{X:Nat->ByteArray}(h:NOwn w w' ao k T X):LRow w' 47 ao (dZ (jW k T X)):=fun hc=>by
 have hk:0<k:=by
  rcases Nat.eq_zero_or_pos k with q|q
  ·exfalso;apply hc;subst q;rfl
  ·exact q
 obtain⟨g,e,_,hN⟩:=h hk;refine⟨g,0,e,VHas.typed hN,fun j v hj=>?_⟩
 have hlt:j<k*2:=by
  rcases Nat.lt_or_ge j (k*2) with q|q
  ·exact q
  ·rw[List.getElem?_eq_none (by rw[dE,dO];exact q)]at hj;cases hj
 have h1:=VHas.cell hN hlt;rw[Nat.zero_add,h1,<-rF k T X j hlt];simp[lf,hj]
def zE(n:Nd)(m:Ms):Nat:=iL n.log.length (cL n.log) m.index.toNat m.ents.length (cL m.ents)
def BE(n:Nd)(m:Ms):Bool:=mD n.log.length (cL n.log) (cS n.log) m.index m.ents.length (cL m.ents) (cS m.ents)
def kU(n:Nd)(m:Ms):List En:=jW (lB n.log.length (cL n.log) (cS n.log) m.index m.ents.length (cL m.ents) (cS m.ents)) (mV m.ents.length (zE n m) m.index.toNat (cL n.log) (cL m.ents)) (mV m.ents.length (zE n m) m.index.toNat (cS n.log) (cS m.ents))
def qX(n:Nd)(m:Ms):Bool:=(fJ n.log&&jQ n.log.length (cL n.log) m.index m.lterm)&&(BE n m&&(decide (n.commit<=(kU n m).length)&&H7 ((kU n m).take n.commit.toNat) (n.log.take n.commit.toNat)))
theorem zF(ao bo:Option Addr)(a b:List En)(c cap bcap:Nat)(h1:c<=a.length)(h2:c<=b.length)(h3:a.length<=1048576)(h4:b.length<=1048576)(w:World)(hr:LRow w 47 ao (dZ a))(hr':LRow w 47 bo (dZ b)):Calls Tryz.prog 107 #[.slice bo c bcap,.slice ao c cap] w fun e w'=>e=.returned (.bool (H7 (b.take c) (a.take c)))/\RB w w':=by
 have e1:(b.take c).length=c:=by simp;omega
 have e2:(a.take c).length=c:=by simp;omega
 have h5:LRow w 47 bo (dZ (b.take c)):=by rw[iI];exact hr'.take _
 have h6:LRow w 47 ao (dZ (a.take c)):=by rw[iI];exact hr.take _
 have:=H8 bo ao (b.take c) (a.take c) bcap cap (by omega) (by omega) w h5 h6;rw[e1,e2]at this;exact this
structure GlE(w:World)(aL aE aO:Addr):Prop where
 g:GlV w aL aE aO
 e:w.cell? ⟨1,0,none⟩=some (.iface 199 (.pointer (some aE)))
 o:w.cell? ⟨2,0,none⟩=some (.iface 199 (.pointer (some aO)))
 t:w.cell? ⟨3,0,none⟩=some (.iface 172 (.agg #[lZ 127]))
theorem GlE.next{w w':World}{aL aE aO:Addr}(h:GlE w aL aE aO)(hb:Below w.heap.size w w'):GlE w' aL aE aO:=⟨h.g.next hb,aB hb nl h.e,aB hb nl h.o,aB hb nl h.t⟩
structure MsZ(m:Ms):Prop where
 l:m.ents.length<=1048576
 x:∀ k,k<m.ents.length->(cS m.ents k).size<=1048576
def U5(R:Bool)(l:List En)(w w':World)(e:Ending):Prop:=∃ ao cap,e=.returned (.tuple #[.slice ao (if R then l.length else 0) cap,.bool R])/\(R=true->l.length<=cap/\LRow w' 47 ao (dZ l))/\RB w w'
theorem zG{l:List En}{w w':World}(hb:RB w w'):U5 false l w w' (.returned (.tuple #[.slice none 0 0,.bool false])):=⟨none,0,rfl,fun h=>(Bool.noConfusion h),hb⟩
theorem O4{l:List En}{w w':World}{ao:Option Addr}{cap:Nat}(hc:l.length<=cap)(hl:LRow w' 47 ao (dZ l))(hb:RB w w'):U5 true l w w' (.returned (.tuple #[.slice ao l.length cap,.bool true])):=⟨ao,cap,rfl,fun _=>⟨hc,hl⟩,hb⟩
theorem sD(n:Nd)(s:NdS)(hz:NdZ n s)(m:Ms)(eo:Option Addr)(ec:Nat)(hmz:MsZ m)(hc0:0<=n.commit/\n.commit<=n.log.length)(aL aE aO:Addr)(w:World)(hG:GlE w aL aE aO)(hM:NdM w n s)(hE:MsM w m eo ec)(hlen:lB n.log.length (cL n.log) (cS n.log) m.index m.ents.length (cL m.ents) (cS m.ents)<=1048576):
  Calls Tryz.prog 76 #[aX n s,eS m eo ec] w fun e w'=>U5 (qX n m) (kU n m) w w' e:=by
 obtain⟨R,hR⟩:∃ R,R=qX n m:=⟨_,rfl⟩
 rw[<-hR];have HR:Hid (R=qX n m):=hR;clear hR;have hb:=rt _ _ _ (ra w (.cells (aJ n s).toArray 27)) (ra _ (.cells (bZ m eo ec).toArray 29));have vA:NdB _ w.heap.size n s:=(aH w n s).next (ra _ (.cells (bZ m eo ec).toArray 29));have vM:=bJ (w.alloc (.cells (aJ n s).toArray 27)) m eo ec;rw[World.size_alloc]at vM;replace hM:=hM.next hb;replace hG:=hG.next hb;replace hE:=hE.next hb;go_enter Tryz.func76,Tryz.ntmps76;refine fQ fun K0 hK0=>?_
 go_wp2;refine hK0 _ _ ?_;clear hK0;generalize ((w.alloc _).alloc _)=W at hb vA vM hM hG hE ⊢;obtain⟨d0,d1,d2,d3,d4,d5,d6,d7,d8,d9⟩:=VHas.c10 vA;obtain⟨e0,e1,e2,e3,e4,e5,e6,e7,e8⟩:=VHas.c9 vM;simp[lf]at d0 d1 d2 d3 d4 d5 d6 d7 d8 d9 e0 e1 e2 e3 e4 e5 e6 e7 e8
 go_wp2_with fail
 refine (yE s.lo n.log.length s.lc (cL n.log) (cS n.log) m.index m.lterm aL aO aE (by have:=hz.l;omega) hz.tx hz.lc _ hM.l.n hG.g.l hG.o hG.e).mono ?_;rintro e w1 ⟨rfl,hb1⟩;replace hb:=rt _ _ _ hb hb1;replace vA:NdB w1 w.heap.size n s:=vn vA hb1;replace vM:MsB w1 (w.heap.size+1) m eo ec:=vn vM hb1;replace hM:=hM.next hb1;replace hG:=hG.next hb1;replace hE:=hE.next hb1;clear hb1 d0 d1 d2 d3 d4 d5 d6 d7 d8 d9 e0 e1 e2 e3 e4 e5 e6 e7 e8;have efit:(eD n.log.length (cL n.log) (cS n.log)&&jQ n.log.length (cL n.log) m.index m.lterm)=(fJ n.log&&jQ n.log.length (cL n.log) m.index m.lterm):=rfl;rw[efit];rcases bq (fJ n.log&&jQ n.log.length (cL n.log) m.index m.lterm) with hF|hF
 rotate_left
 ·have e0:R=false:=by rw[HR.out];unfold qX;rw[hF,Bool.false_and]
  subst e0;rw[hF];go_wp2;exact bodyPost_ret (v:=.tuple #[.slice none 0 0,.bool false]) (by simp[results,Tryz.results76,go_sem]) rfl (zG hb)
 rw[hF]
 have HR2:Hid (R=(BE n m&&(decide (n.commit<=(kU n m).length)&&H7 ((kU n m).take n.commit.toNat) (n.log.take n.commit.toNat)))):=by
  show _ = _
  rw[HR.out];unfold qX;rw[hF,Bool.true_and]
 clear HR hF efit;obtain⟨d0,d1,d2,d3,d4,d5,d6,d7,d8,d9⟩:=VHas.c10 vA;obtain⟨e0,e1,e2,e3,e4,e5,e6,e7,e8⟩:=VHas.c9 vM;simp[lf]at d0 d1 d2 d3 d4 d5 d6 d7 d8 d9 e0 e1 e2 e3 e4 e5 e6 e7 e8
 go_wp2_with fail
 refine (uF s.lo n.log.length s.lc (cL n.log) (cS n.log) m.index eo m.ents.length ec (cL m.ents) (cS m.ents) aE aL aO hz.l hz.lc hmz.l hE.c hz.tx hmz.x _ hM.l.n hE.e.n hG.e hG.g.l hG.o hG.t).mono ?_;rintro e w2 ⟨ao,cap,rfl,hcap,hN,hb2⟩;have hL:=O3 hN;replace hb:=rt _ _ _ hb hb2;replace vA:NdB w2 w.heap.size n s:=vn vA hb2;replace hM:=hM.next hb2;clear hb2 hN hG hE vM d0 d1 d2 d3 d4 d5 d6 d7 d8 d9 e0 e1 e2 e3 e4 e5 e6 e7 e8;obtain⟨ok,hok⟩:∃ ok,ok=BE n m:=⟨_,rfl⟩
 obtain⟨L,hLL⟩:∃ L,L=kU n m:=⟨_,rfl⟩
 have hLn:L.length=lB n.log.length (cL n.log) (cS n.log) m.index m.ents.length (cL m.ents) (cS m.ents):=by rw[hLL];exact dO _ _ _
 replace hL:LRow w2 47 ao (dZ L):=by rw[hLL];exact hL
 rw[<-hok,<-hLL]at HR2;rw[<-hLn]at hcap hlen;rw[show mD n.log.length (cL n.log) (cS n.log) m.index m.ents.length (cL m.ents) (cS m.ents)=ok from hok.symm,<-hLn];have HOK:Hid (L=kU n m):=hLL;clear hok hLL hLn;obtain⟨c,hcm⟩:∃ c:Nat,n.commit=(c:Int):=⟨n.commit.toNat,by omega⟩
 have hct:n.commit.toNat=c:=by omega
 rw[hct]at HR2;have HCM:Hid (n.commit=(c:Int)):=hcm;have hcl:c<=n.log.length:=by omega
 have hzl:=hz.l;clear hcm hct hc0
 go_wp2_with fail
 have hcm:=HCM.out;have hd:RB w2 w2.drew:=(Below.refl _ _).drew;replace hb:=rt _ _ _ hb hd;replace vA:NdB w2.drew w.heap.size n s:=vn vA hd;replace hM:=hM.next hd;replace hL:=hL.next hd;clear hd;obtain⟨b27,qb27⟩:∃ b:Bool,b=(!ok):=⟨_,rfl⟩
 obtain⟨c2f,hc2f⟩:∃ c:Bool,c=(true&&((b27)==false)):=⟨_,rfl⟩
 obtain⟨b33,qb33⟩:∃ b:Bool,b=(decide ((L.length:Int)<n.commit)):=⟨_,rfl⟩
 obtain⟨b34,qb34⟩:∃ b:Bool,b=((b27||b33)):=⟨_,rfl⟩
 obtain⟨c9f,hc9f⟩:∃ c:Bool,c=(true&&((b34)==false)):=⟨_,rfl⟩
 obtain⟨b45,qb45⟩:∃ b:Bool,b=(H7 (L.take c) (n.log.take c)):=⟨_,rfl⟩
 obtain⟨b46,qb46⟩:∃ b:Bool,b=(!b45):=⟨_,rfl⟩
 obtain⟨b47,qb47⟩:∃ b:Bool,b=((b34||b46)):=⟨_,rfl⟩
 refine bQ (by kernel_rfl) (by kernel_rfl) RB rr rt
  [isV (.bool ok),isV (.bool b27),isV (.bool b27),isV (gv c2f (.slice ao L.length cap)),isV (gv c2f (.int .i64 (L.length:Int))),isV (gv c2f (.pointer (some ⟨w.heap.size,6,none⟩))),isV (gv c2f (.int .i64 n.commit)),isV (gv c2f (.bool b33)),isV (.bool b34),isV (.bool b34),isV (gv c9f (.slice ao L.length cap)),isV (gv c9f (.pointer (some ⟨w.heap.size,6,none⟩))),isV (gv c9f (.int .i64 n.commit)),isV (gv c9f (.slice ao c cap)),isV (gv c9f (.pointer (some ⟨w.heap.size,4,none⟩))),isV (gv c9f (.slice s.lo n.log.length s.lc)),isV (gv c9f (.pointer (some ⟨w.heap.size,6,none⟩))),isV (gv c9f (.int .i64 n.commit)),isV (gv c9f (.slice s.lo c s.lc)),isV (gv c9f (.bool b45)),isV (gv c9f (.bool b46)),isV (.bool b47)]
  ⟨iR,iR,iR,iR,iR,iR,iR,iR,iR,iR,iR,iR,iR,iR,iR,iR,iR,iR,iR,iR,iR,iR,trivial⟩ rfl ?_ ?_
 ·refine⟨?_,?_,?_,?_,?_,?_,?_,?_,?_,?_,?_,?_,?_,?_,?_,?_,?_,?_,?_,?_,?_,?_,trivial⟩
  ·exact ow 7
  ·exact mQ 0 26 qb27
  ·exact o1 1 27
  ·exact gw 2 28 hc2f 6 nt
  ·exact g1 2 28 hc2f 3 29 nt
  ·exact gw 2 28 hc2f 2 nt
  ·exact gc 2 28 hc2f 5 31 fun _ hR=>(vA.next hR).cell (j:=6) (by omega)
  ·exact g2 2 28 hc2f 4 30 6 32 qb33
  ·exact oq rfl fun ev w' v hR E pr=>by
    have e1:=E.eq pr 2 28;have e2:=E.eq pr 7 33;rcases bq (b27) with hs|hs<;>simp[go_sem,E.con,qb34,gv,hc2f,e1,e2,hs]
  ·exact o1 8 34
  ·exact gw 9 35 hc9f 6 nt
  ·exact gw 9 35 hc9f 2 nt
  ·exact gc 9 35 hc9f 11 37 fun _ hR=>(vA.next hR).cell (j:=6) (by omega)
  ·exact OpOk.gd rr 9 35 false true (b34) (fun _ _ h=>h) c9f hc9f _ (fun _=>rfl) fun ev w' v hR E pr hC=>by
    have e1:=E.eq pr 10 36;have e2:=E.eq pr 12 38;rw[hC]at e1;rw[hC]at e2;rw[hcm]at e2;exact rR rfl e1 e2 (by simp[hc9f,qb27,qb33,qb34,qb45,qb46,qb47]at hC;omega) hcap
  ·exact gw 9 35 hc9f 2 nt
  ·exact gc 9 35 hc9f 14 40 fun _ hR=>(vA.next hR).cell (j:=4) (by omega)
  ·exact gw 9 35 hc9f 2 nt
  ·exact gc 9 35 hc9f 16 42 fun _ hR=>(vA.next hR).cell (j:=6) (by omega)
  ·exact OpOk.gd rr 9 35 false true (b34) (fun _ _ h=>h) c9f hc9f _ (fun _=>rfl) fun ev w' v hR E pr hC=>by
    have e1:=E.eq pr 15 41;have e2:=E.eq pr 17 43;rw[hC]at e1;rw[hC]at e2;rw[hcm]at e2;exact rR rfl e1 e2 (by omega) hz.lc
  ·exact OpOk.gdCall 9 35 false true (b34) (fun _ _ h=>h) c9f hc9f _ (fun _=>rfl) fun ev w' v hR E pr hC=>by
    have e1:=E.eq pr 13 39;have e2:=E.eq pr 18 44;rw[hC]at e1;rw[hC]at e2;refine⟨107,#[.slice ao c cap,.slice s.lo c s.lc],by simp[go_sem,gv,e1,e2,E.fn],?_⟩;rw[qb45];exact zF s.lo ao n.log L c s.lc cap (by omega) (by simp[hc9f,qb27,qb33,qb34,qb45,qb46,qb47]at hC;omega) (by omega) (by omega) _ ((hM.l).next hR) (hL.next hR)
  ·exact g1 9 35 hc9f 19 45 qb46
  ·exact oq rfl fun ev w' v hR E pr=>by
    have e1:=E.eq pr 9 35;have e2:=E.eq pr 20 46;rcases bq (b34) with hs|hs<;>simp[go_sem,E.con,qb47,gv,hc9f,e1,e2,hs]
 ·intro v w' hR hp
  obtain⟨_,_,_,_,_,_,_,_,_,_,_,_,_,_,_,_,_,_,_,_,_,p21,_⟩:=hp;replace p21:v 21=.bool b47:=p21;simp only[bF,Nat.zero_add,Nat.reduceAdd,p21,Act.put,sY,sZ,ss]
  have eb:b47 = !R:=by
   have h3:decide (n.commit<=(L.length:Int)) = !decide ((L.length:Int)<n.commit):=by
    by_cases h:(L.length:Int)<n.commit
    ·have h4:¬ n.commit<=(L.length:Int):=by omega
     simp[h,h4]
    ·have h4:n.commit<=(L.length:Int):=by omega
     simp[h,h4]
   rw[HR2.out,h3];simp only[qb27,qb33,qb34,qb45,qb46,qb47];generalize decide ((L.length:Int)<n.commit)=x;generalize H7 (L.take c) (n.log.take c)=y;cases ok<;>cases x<;>cases y<;>rfl
  rw[eb];clear eb p21;have hb9:=rt _ _ _ hb hR;have hL9:=hL.next hR;rcases bq R with hRR|hRR
  ·rw[hRR]
   go_wp2;exact bodyPost_ret (v:=.tuple #[.slice ao L.length cap,.bool true]) (by simp[results,Tryz.results76,go_sem]) rfl (by rw[hRR,<-HOK.out];exact O4 hcap hL9 hb9)
  ·rw[hRR]
   go_wp2;exact bodyPost_ret (v:=.tuple #[.slice none 0 0,.bool false]) (by simp[results,Tryz.results76,go_sem]) rfl (by rw[hRR];exact zG hb9)
theorem jR{P:Program}{ops:Array Oper}{o:Oper}{rest:List Oper}{a:Act}{w:World}{Q:Exit->Act->World->Prop}{v:Value}(hgd:o.guard=none)(d:Nat)(hd:o.dst=some d)(hr:(execOp a.eval o).run P w=.ok (.value v) w)(h:wpList P ops Q rest (a.put (some d) v) w):wpList P ops Q (o :: rest) a w:=
 wpList_plain hgd fun _ hK=>by
  unfold Oper.wp;rw[hr];simp only[Oper.upon,hd];exact hK _ _ h
theorem pF{P:Program}{o:Oper}{ev:Operand->Value}{x y:Operand}{t:TypeId}{u v:Int}{w:World}(ho:o.op=.call { callee:=.builtin .max,args:=#[x,y],argTypes:=#[t,t] })(hx:ev x=.int .i64 u)(hy:ev y=.int .i64 v):(execOp ev o).run P w=.ok (.value (.int .i64 (max u v))) w:=by
 by_cases h:u<v
 ·have e:max u v=v:=by omega
  simp[execOp,ho,resolve,invoke,builtin,hx,hy,Builtin.max_,Builtin.max2,h,e]
 ·have e:max u v=u:=by omega
  simp[execOp,ho,resolve,invoke,builtin,hx,hy,Builtin.max_,Builtin.max2,h,e]
def qF(m:Ms):Int:=m.index+m.ents.length
def Q8(n:Nd)(m:Ms):Nd:=⟨n.id,n.peers,n.term,n.vote,kU (bV n) m,1,max n.commit (min m.commit (qF m)),[],[],[]⟩
def jY(n:Nd)(m:Ms):Nd:=if m.term<n.term then n else if n.role=3 then n else if qX (bV n) m=true then Q8 n m else bV n
def mB(n:Nd)(m:Ms):List Ms:=if m.term<n.term then [fI n m 0 false] else if n.role=3 then [] else if qX (bV n) m=true then [fI n m (qF m) true] else [fI n m (min (n.log.length:Int) (max m.index 1-1)) false]
structure NdK(n:Nd)(s:NdS):Prop where
 l:n.log.length<=s.lc
 v:n.votes.length<=s.vc
 x:n.next.length<=s.nc
 m:n.mat.length<=s.mc
theorem NdZ.k{n:Nd}{s:NdS}(h:NdZ n s):NdK n s:=⟨h.lc,h.vc,h.xc,h.mc⟩
def CR(n:Nd)(l:List Ms)(w w':World)(e:Ending):Prop:=∃ s v,e=.returned (.tuple #[aX n s,v])/\NdM w' n s/\NdK n s/\NetV w.heap.size l v w'/\RB w w'
theorem FT{w:World}{n:Nd}{s:NdS}(h:NdM w n s):NdM w (bV n) (rB s):=⟨h.l,LRow.nil,LRow.nil,LRow.nil⟩
theorem FU{n:Nd}{s:NdS}(h:NdZ n s):NdZ (bV n) (rB s):=⟨h.l,by simp[bV],by simp[bV],by simp[bV],h.lc,by simp[bV],by simp[bV],by simp[bV],h.tx⟩
theorem yF(n:Nd)(s:NdS)(hz:NdZ n s)(m:Ms)(eo:Option Addr)(ec:Nat)(hmz:MsZ m)(hc0:0<=n.commit/\n.commit<=n.log.length)(hix:-9223372036854775808<=m.index/\m.index<=9223372036854775807)(hri:qX (bV n) m=true->0<=m.index/\m.index<=2000000)(aL aE aO:Addr)(w:World)(hG:GlE w aL aE aO)(hM:NdM w n s)(hE:MsM w m eo ec)(hlen:lB n.log.length (cL n.log) (cS n.log) m.index m.ents.length (cL m.ents) (cS m.ents)<=1048576):
  Calls Tryz.prog 35 #[aX n s,eS m eo ec] w fun e w'=>CR (jY n m) (mB n m) w w' e:=by
 have hb:=rt _ _ _ (rt _ _ _ (ra w (.cells (aJ n s).toArray 27)) (ra _ (.cells (bZ m eo ec).toArray 29))) (ra _ (.cells (aJ aU aP).toArray 27));have vA:NdB _ w.heap.size n s:=((aH w n s).next (ra _ (.cells (bZ m eo ec).toArray 29))).next (ra _ (.cells (aJ aU aP).toArray 27));have vM:MsB _ (w.alloc (.cells (aJ n s).toArray 27)).heap.size m eo ec:=(bJ (w.alloc (.cells (aJ n s).toArray 27)) m eo ec).next (ra _ (.cells (aJ aU aP).toArray 27));have vR:=aH ((w.alloc (.cells (aJ n s).toArray 27)).alloc (.cells (bZ m eo ec).toArray 29)) aU aP;rw[World.size_alloc]at vM;rw[World.size_alloc,World.size_alloc]at vR;have HG:Hid (∀ W,RB w W->GlE W aL aE aO):=fun W h=>hG.next h
 have HE:Hid (∀ W,RB w W->MsM W m eo ec):=fun W h=>hE.next h
 have HM:Hid (∀ W,RB w W->NdM W n s):=fun W h=>hM.next h
 clear hG hE hM;have hzf:=hz.l;go_enter Tryz.func35,Tryz.ntmps35;refine fQ fun K0 hK0=>?_
 go_wp2;refine hK0 _ _ ?_;clear hK0;generalize (((w.alloc _).alloc _).alloc _)=W at hb vA vM vR ⊢;obtain⟨d0,d1,d2,d3,d4,d5,d6,d7,d8,d9⟩:=VHas.c10 vA;obtain⟨e0,e1,e2,e3,e4,e5,e6,e7,e8⟩:=VHas.c9 vM;simp[lf]at d0 d1 d2 d3 d4 d5 d6 d7 d8 d9 e0 e1 e2 e3 e4 e5 e6 e7 e8
 by_cases hlt:m.term<n.term
 ·have HN:Hid (jY n m=n):=by show _ = _;simp[jY,hlt]
  have HL:Hid (mB n m=[fI n m 0 false]):=by show _ = _;simp[mB,hlt]
  have hK:=hz.k;have HMW:=HM
  go_wp2_with fail
  clear d0 d1 d2 d3 d4 d5 d6 d7 d8 d9 e0 e1 e2 e3 e4 e5 e6 e7 e8;have hd:RB W W.drew:=(Below.refl _ _).drew;replace hb:=rt _ _ _ hb hd;replace vA:NdB W.drew w.heap.size n s:=vn vA hd;replace vM:MsB W.drew (w.heap.size+1) m eo ec:=vn vM hd;replace vR:NdB W.drew (w.heap.size+1+1) aU aP:=vn vR hd;have hM:NdM W.drew n s:=HMW.out _ hb;have hbs:=hb.size;clear hd
  refine cY (by kernel_rfl) (by kernel_rfl) 4 [0,1,2,3] [3,5] (by kernel_rfl) (by kernel_rfl)
   (fun u v=>u.grownBy v (some (w.heap.size+1+1))/\aG u (w.heap.size+1+1) 27)
   (fun W5=>NdB W5 (w.heap.size+1+1) n s/\NdM W5 n s/\RB w W5)
   (fun a b h hR=>⟨vn h.1 hR,h.2.1.next hR,rt _ _ _ h.2.2 hR⟩)
   [isV (aX n s),isV (aX n s),isV (eS m eo ec),NetV w.heap.size [fI n m (0) false],fun _ _=>True,NetV w.heap.size [fI n m (0) false]]
   ⟨iR,iR,iR,NetV.rb,fun _ _ _ h _=>h,NetV.rb,trivial⟩ ?_ ?_ (kR ?_) _ rfl rfl ?_ ?_
  ·intro i hi v a b h hx
   simp only[List.mem_cons,List.not_mem_nil,or_false]at hi;rcases hi with rfl|rfl
   ·exact NetV.gr h hx.1 hx.2
   ·exact NetV.gr h hx.1 hx.2
  ·intro i hi o ho
   simp only[List.mem_cons,List.not_mem_nil,or_false]at hi;rcases hi with rfl|rfl|rfl|rfl<;>(obtain rfl:=oI ho)
   ·exact oq rfl fun ev w' v hR E pr=>by
     have e1:=E.was 2 _;exact bD rfl e1 (vA.next hR)
   ·exact oq rfl fun ev w' v hR E pr=>by
     have e1:=E.was 2 _;exact bD rfl e1 (vA.next hR)
   ·exact oq rfl fun ev w' v hR E pr=>by
     have e1:=E.was 3 _;exact gJ rfl e1 (vM.next hR)
   ·refine OpOk.call rfl fun ev w' v hR E pr=>?_
    have e1:=E.eq pr 1 15;have e2:=E.eq pr 2 16;refine⟨75,#[aX n s,eS m eo ec,.int .i64 (0),.bool false],by simp[go_sem,e1,e2,E.con,E.fn],(lP n s m eo ec (0) false _).mono ?_⟩;rintro e w2 ⟨v2,rfl,hn,hb2⟩;exact⟨_,rfl,hb2,NetV.from hn (Nat.le_trans hbs hR.size)⟩
  ·refine aD rfl (aD rfl (aD rfl (aD rfl (aD rfl (aM ?_ trivial)))))
   intro ev w5 v hR E pr;exact⟨ev (.tmp 17),w5,by simp[go_sem],rr _,E.kept pr 3 17⟩
  ·intro ev w5 v hR E hp
   have E1:ev (.tmp 14)=aX (n) (s):=E.get hp 0 14;have E2:ev (.tmp 4)=.pointer (some ⟨w.heap.size+1+1,0,none⟩):=E.was 4 _;have vR':=vn vR hR;have hg:w5.grownBy (setL w5 (w.heap.size+1+1) 0 (aJ (n) (s))) (some (w.heap.size+1+1)):=bP _ _ 0 _;exact⟨_,bU (aJ (n) (s)) rfl E2 E1 vR' (by kernel_rfl) (cD (by kernel_rfl)),⟨hg,vR'.typed⟩,bE _ vR',(hM.next hR).gr hg (bA vR') (by decide) (by decide),aV (rt _ _ _ hb hR) hg (by omega)⟩
  ·intro v8 w8 hP8 hk8
   have k8:NetV w.heap.size [fI n m (0) false] (v8 5) w8:=hk8 5 (by decide) (nb (by kernel_rfl)) (by decide);simp only[bF,Nat.zero_add,Nat.reduceAdd,Act.put,sY,sZ,ss];obtain⟨hv9,hM9,hb9⟩:=hP8;obtain⟨q0,q1,q2,q3,q4,q5,q6,q7,q8,q9⟩:=cN hv9;go_wp2;exact bodyPost_ret (v:=.tuple #[aX n s,v8 5]) (by simp[results,Tryz.results35,go_sem,q0,q1,q2,q3,q4,q5,q6,q7,q8,q9]) rfl (by rw[HN.out,HL.out];exact⟨s,v8 5,rfl,hM9,hK,k8,hb9⟩)
 by_cases hr:n.role=3
 ·have HN:Hid (jY n m=n):=by show _ = _;simp[jY,hlt,hr]
  have HL:Hid (mB n m=[]):=by show _ = _;simp[mB,hlt,hr]
  have hr':(n.role==3)=true:=by simp[hr]
  clear hr
  go_wp2_with (first|((with_reducible refine wB 27 (.tmp 4) (.tmp 21) (w.heap.size+1+1) (aJ (n) (s)) vR ?_);intro W9 hv9 hg9)|fail)
  obtain⟨q0,q1,q2,q3,q4,q5,q6,q7,q8,q9⟩:=cN hv9;exact bodyPost_ret (v:=.tuple #[aX n s,.slice none 0 0]) (by simp[results,Tryz.results35,go_sem,q0,q1,q2,q3,q4,q5,q6,q7,q8,q9]) rfl (by rw[HN.out,HL.out];exact⟨s,_,rfl,HM.out _ (aV hb hg9 (by omega)),hz.k,⟨none,0,[],rfl,rfl,NetO.nil _ _⟩,aV hb hg9 (by omega)⟩)
 have hr':(n.role==3)=false:=by simp[hr]
 have HN0:Hid (jY n m=if qX (bV n) m=true then Q8 n m else bV n):=by show _ = _;simp[jY,hlt,hr]
 have HL0:Hid (mB n m=if qX (bV n) m=true then [fI n m (qF m) true] else [fI n m (min (n.log.length:Int) (max m.index 1-1)) false]):=by show _ = _;simp[mB,hlt,hr]
 clear hr
 go_wp2_with fail
 refine (nX n s _).mono ?_;rintro e w1 ⟨rfl,hb1⟩;replace hb:=rt _ _ _ hb hb1;replace vA:NdB w1 w.heap.size n s:=vn vA hb1;replace vM:MsB w1 (w.heap.size+1) m eo ec:=vn vM hb1;replace vR:NdB w1 (w.heap.size+1+1) aU aP:=vn vR hb1;clear d0 d1 d2 d3 d4 d5 d6 d7 d8 d9 e0 e1 e2 e3 e4 e5 e6 e7 e8;clear hb1;obtain⟨f,hf⟩:∃ f,f=bV n:=⟨_,rfl⟩
 obtain⟨sf,hsf⟩:∃ sf,sf=rB s:=⟨_,rfl⟩
 have HMF:Hid (∀ W,RB w W->NdM W f sf):=fun W h=>by rw[hf,hsf];exact FT (HM.out W h)
 have hzz:NdZ f sf:=by rw[hf,hsf];exact FU hz
 have hzf:f.log.length<=1048576:=hzz.l;have hcf:0<=f.commit/\f.commit<=f.log.length:=by rw[hf];exact hc0
 have hlf:lB f.log.length (cL f.log) (cS f.log) m.index m.ents.length (cL m.ents) (cS m.ents)<=1048576:=by rw[hf];exact hlen
 rw[<-hf]at HN0 HL0 hri ⊢;rw[<-hsf];have HF:Hid (f=bV n):=hf;clear hf hsf hlen hc0 hz hzf;have hzf:=hzz.l
 go_wp2_with (first|((with_reducible refine wB 27 (.tmp 2) (.tmp 23) (w.heap.size) (aJ (f) (sf)) vA ?_);intro W2 vA2 hg2;replace vR:NdB W2 (w.heap.size+1+1) aU aP:=VHas.grown vR hg2 (fun e=>by have:=oI e;omega);replace vM:MsB W2 (w.heap.size+1) m eo ec:=VHas.grown vM hg2 (fun e=>by have:=oI e;omega);replace hb:=aV hb hg2 nl;have vA3:NdB W2 w.heap.size f sf:=vA2;obtain⟨d0,d1,d2,d3,d4,d5,d6,d7,d8,d9⟩:=VHas.c10 vA3;obtain⟨e0,e1,e2,e3,e4,e5,e6,e7,e8⟩:=VHas.c9 vM;simp[lf]at d0 d1 d2 d3 d4 d5 d6 d7 d8 d9 e0 e1 e2 e3 e4 e5 e6 e7 e8)|fail)
 clear vA;have vA:NdB W2 w.heap.size f sf:=vA3;clear vA2 vA3 hg2;refine (sD f sf hzz m eo ec hmz hcf aL aE aO _ (HG.out _ hb) (HMF.out _ hb) (HE.out _ hb) hlf).mono ?_;rintro e w3 ⟨ao,cap,rfl,hmg,hb3⟩;replace hb:=rt _ _ _ hb hb3;replace vA:NdB w3 w.heap.size f sf:=vn vA hb3;replace vM:MsB w3 (w.heap.size+1) m eo ec:=vn vM hb3;replace vR:NdB w3 (w.heap.size+1+1) aU aP:=vn vR hb3;clear d0 d1 d2 d3 d4 d5 d6 d7 d8 d9 e0 e1 e2 e3 e4 e5 e6 e7 e8;clear hb3;rcases bq (qX f m) with hF|hF
 rotate_left
 ·rw[hF]at HN0 HL0 ⊢
  have HN:Hid (jY n m=f):=by show _ = _;rw[HN0.out];rfl
  have HL:Hid (mB n m=[fI f m (min (f.log.length:Int) (max m.index 1-1)) false]):=by show _ = _;rw[HL0.out,HF.out];rfl
  have hK:=hzz.k;clear hmg;have HMW:=HMF
  go_wp2_with fail
  have hd:RB w3 w3.drew:=(Below.refl _ _).drew;replace hb:=rt _ _ _ hb hd;replace vA:NdB w3.drew w.heap.size f sf:=vn vA hd;replace vM:MsB w3.drew (w.heap.size+1) m eo ec:=vn vM hd;replace vR:NdB w3.drew (w.heap.size+1+1) aU aP:=vn vR hd;have hM:NdM w3.drew f sf:=HMW.out _ hb;have hbs:=hb.size;clear hd;have hw40:IntKind.i64.wrap ((max (m.index) (1))-1)=((max (m.index) (1))-1):=wi
  refine cY (by kernel_rfl) (by kernel_rfl) 11 [0,1,2,3,4,5,6,7,8,9,10] [10,12] (by kernel_rfl) (by kernel_rfl)
   (fun u v=>u.grownBy v (some (w.heap.size+1+1))/\aG u (w.heap.size+1+1) 27)
   (fun W5=>NdB W5 (w.heap.size+1+1) f sf/\NdM W5 f sf/\RB w W5)
   (fun a b h hR=>⟨vn h.1 hR,h.2.1.next hR,rt _ _ _ h.2.2 hR⟩)
   [isV (aX f sf),isV (aX f sf),isV (eS m eo ec),isV (aX f sf),isV (.int .i64 (f.log.length:Int)),isV (.pointer (some ⟨w.heap.size+1,4,none⟩)),isV (.int .i64 m.index),isV (.int .i64 (max (m.index) (1))),isV (.int .i64 ((max (m.index) (1))-1)),isV (.int .i64 (min ((f.log.length:Int)) (((max (m.index) (1))-1)))),NetV w.heap.size [fI f m (min (f.log.length:Int) (max m.index 1-1)) false],fun _ _=>True,NetV w.heap.size [fI f m (min (f.log.length:Int) (max m.index 1-1)) false]]
   ⟨iR,iR,iR,iR,iR,iR,iR,iR,iR,iR,NetV.rb,fun _ _ _ h _=>h,NetV.rb,trivial⟩ ?_ ?_ (kR ?_) _ rfl rfl ?_ ?_
  ·intro i hi v a b h hx
   simp only[List.mem_cons,List.not_mem_nil,or_false]at hi;rcases hi with rfl|rfl
   ·exact NetV.gr h hx.1 hx.2
   ·exact NetV.gr h hx.1 hx.2
  ·intro i hi o ho
   simp only[List.mem_cons,List.not_mem_nil,or_false]at hi;rcases hi with rfl|rfl|rfl|rfl|rfl|rfl|rfl|rfl|rfl|rfl|rfl<;>(obtain rfl:=oI ho)
   ·exact oq rfl fun ev w' v hR E pr=>by
     have e1:=E.was 2 _;exact bD rfl e1 (vA.next hR)
   ·exact oq rfl fun ev w' v hR E pr=>by
     have e1:=E.was 2 _;exact bD rfl e1 (vA.next hR)
   ·exact oq rfl fun ev w' v hR E pr=>by
     have e1:=E.was 3 _;exact gJ rfl e1 (vM.next hR)
   ·exact oq rfl fun ev w' v hR E pr=>by
     have e1:=E.was 2 _;exact bD rfl e1 (vA.next hR)
   ·exact OpOk.ret _ (fun _=>rfl) fun ev w' v hR E pr=>by
     have e1:=E.eq pr 3 35;refine⟨46,#[aX f sf],by simp[go_sem,gv,e1,E.fn],?_⟩;exact gD f sf hzf _
   ·exact ow 3
   ·exact oc 5 37 fun _ hR=>(vM.next hR).cell (j:=4) (by omega)
   ·exact oq rfl fun ev w' v hR E pr=>by
     have e1:=E.eq pr 6 38;exact pF rfl e1 (by simp[E.con])
   ·exact mQ 7 39 hw40
   ·exact oq rfl fun ev w' v hR E pr=>by
     have e1:=E.eq pr 4 36;have e2:=E.eq pr 8 40;exact pG rfl e1 e2
   ·refine OpOk.call rfl fun ev w' v hR E pr=>?_
    have e1:=E.eq pr 1 33;have e2:=E.eq pr 2 34;have e3:=E.eq pr 9 41;refine⟨75,#[aX f sf,eS m eo ec,.int .i64 (min (f.log.length:Int) (max m.index 1-1)),.bool false],by simp[go_sem,e1,e2,e3,E.con,E.fn],(lP f sf m eo ec (min (f.log.length:Int) (max m.index 1-1)) false _).mono ?_⟩;rintro e w2 ⟨v2,rfl,hn,hb2⟩;exact⟨_,rfl,hb2,NetV.from hn (Nat.le_trans hbs hR.size)⟩
  ·refine aD rfl (aD rfl (aD rfl (aD rfl (aD rfl (aD rfl (aD rfl (aD rfl (aD rfl (aD rfl (aD rfl (aD rfl (aM ?_ trivial))))))))))))
   intro ev w5 v hR E pr;exact⟨ev (.tmp 42),w5,by simp[go_sem],rr _,E.kept pr 10 42⟩
  ·intro ev w5 v hR E hp
   have E1:ev (.tmp 32)=aX (f) (sf):=E.get hp 0 32;have E2:ev (.tmp 4)=.pointer (some ⟨w.heap.size+1+1,0,none⟩):=E.was 4 _;have vR':=vn vR hR;have hg:w5.grownBy (setL w5 (w.heap.size+1+1) 0 (aJ (f) (sf))) (some (w.heap.size+1+1)):=bP _ _ 0 _;exact⟨_,bU (aJ (f) (sf)) rfl E2 E1 vR' (by kernel_rfl) (cD (by kernel_rfl)),⟨hg,vR'.typed⟩,bE _ vR',(hM.next hR).gr hg (bA vR') (by decide) (by decide),aV (rt _ _ _ hb hR) hg (by omega)⟩
  ·intro v8 w8 hP8 hk8
   have k8:NetV w.heap.size [fI f m (min (f.log.length:Int) (max m.index 1-1)) false] (v8 12) w8:=hk8 12 (by decide) (nb (by kernel_rfl)) (by decide);simp only[bF,Nat.zero_add,Nat.reduceAdd,Act.put,sY,sZ,ss];obtain⟨hv9,hM9,hb9⟩:=hP8;obtain⟨q0,q1,q2,q3,q4,q5,q6,q7,q8,q9⟩:=cN hv9;go_wp2;exact bodyPost_ret (v:=.tuple #[aX f sf,v8 12]) (by simp[results,Tryz.results35,go_sem,q0,q1,q2,q3,q4,q5,q6,q7,q8,q9]) rfl (by rw[HN.out,HL.out];exact⟨sf,v8 12,rfl,hM9,hK,k8,hb9⟩)
 ·obtain⟨hcap,hL⟩:=hmg hF
  have hri2:=hri hF;rw[hF]at HN0 HL0 ⊢;simp only[if_true]at HN0 HL0 ⊢;have hel:=hmz.l;have hrc:IntKind.i64.wrap (m.index+(m.ents.length:Int))=m.index+(m.ents.length:Int):=wi
  clear hri hmg;obtain⟨l,hl⟩:∃ l,l=kU f m:=⟨_,rfl⟩
  have HLL:Hid (l=kU f m):=hl;rw[<-hl]at hcap hL ⊢;clear hl;obtain⟨d0,d1,d2,d3,d4,d5,d6,d7,d8,d9⟩:=VHas.c10 vA;obtain⟨e0,e1,e2,e3,e4,e5,e6,e7,e8⟩:=VHas.c9 vM;simp[lf]at d0 d1 d2 d3 d4 d5 d6 d7 d8 d9 e0 e1 e2 e3 e4 e5 e6 e7 e8
  go_wp2_with (first|((with_reducible refine wN 24 (.tmp 50) (.tmp 49) (w.heap.size) 4 (.slice ao l.length cap) (⟨f.id,f.peers,f.term,f.vote,l,f.role,f.commit,f.votes,f.next,f.mat⟩) (⟨ao,cap,sf.vo,sf.vc,sf.no,sf.nc,sf.mo,sf.mc⟩) vA ?_);intro W4 vA4 hg4;have vR4:NdB W4 (w.heap.size+1+1) aU aP:=VHas.grown vR hg4 (fun e=>by have:=oI e;omega);have vM4:MsB W4 (w.heap.size+1) m eo ec:=VHas.grown vM hg4 (fun e=>by have:=oI e;omega);obtain⟨f0,f1,f2,f3,f4,f5,f6,f7,f8,f9⟩:=VHas.c10 vA4;obtain⟨h0,h1,h2,h3,h4,h5,h6,h7,h8⟩:=VHas.c9 vM4;simp[lf]at f0 f1 f2 f3 f4 f5 f6 f7 f8 f9 h0 h1 h2 h3 h4 h5 h6 h7 h8)|(with_reducible refine jR rfl 56 rfl (pG (x:=.tmp 54) (y:=.tmp 55) (u:=m.commit) (v:=m.index+(m.ents.length:Int)) rfl (by simp[go_sem]) (by simp[go_sem])) ?_)|(with_reducible refine jR rfl 57 rfl (pF (x:=.tmp 52) (y:=.tmp 56) (u:=f.commit) (v:=min m.commit (m.index+(m.ents.length:Int))) rfl (by simp[go_sem]) (by simp[go_sem])) ?_)|((with_reducible refine wN 2 (.tmp 58) (.tmp 57) (w.heap.size) 6 (.int .i64 (max f.commit (min m.commit (m.index+(m.ents.length:Int))))) (⟨f.id,f.peers,f.term,f.vote,l,f.role,max f.commit (min m.commit (m.index+(m.ents.length:Int))),f.votes,f.next,f.mat⟩) (⟨ao,cap,sf.vo,sf.vc,sf.no,sf.nc,sf.mo,sf.mc⟩) vA4 ?_);intro W5 vA5 hg5)|fail)
  have hL5:LRow W5 47 ao (dZ l):=(hL.gr hg4 (bA vA) (by decide)).gr hg5 (bA vA4) (by decide);have hb5:RB w W5:=aV (aV hb hg4 nl) hg5 nl;have vM5:MsB W5 (w.heap.size+1) m eo ec:=VHas.grown vM4 hg5 (fun e=>by have:=oI e;omega);have vR5:NdB W5 (w.heap.size+1+1) aU aP:=VHas.grown vR4 hg5 (fun e=>by have:=oI e;omega);clear d0 d1 d2 d3 d4 d5 d6 d7 d8 d9 e0 e1 e2 e3 e4 e5 e6 e7 e8;clear vA vM vR hb vA4 vM4 vR4 hL hg4 hg5;clear f0 f1 f2 f3 f4 f5 f6 f7 f8 f9 h0 h1 h2 h3 h4 h5 h6 h7 h8;obtain⟨g,hg⟩:∃ g:Nd,g=⟨f.id,f.peers,f.term,f.vote,l,f.role,max f.commit (min m.commit (m.index+(m.ents.length:Int))),f.votes,f.next,f.mat⟩:=⟨_,rfl⟩
  obtain⟨sg,hsg⟩:∃ sg:NdS,sg=⟨ao,cap,sf.vo,sf.vc,sf.no,sf.nc,sf.mo,sf.mc⟩:=⟨_,rfl⟩
  have vA:NdB W5 w.heap.size g sg:=by rw[hg,hsg];exact vA5
  have hMF:=HMF.out W5 hb5;have hM5:NdM W5 g sg:=by rw[hg,hsg];exact⟨hL5,hMF.v,hMF.x,hMF.m⟩
  have hK:NdK g sg:=by rw[hg,hsg];exact⟨hcap,hzz.vc,hzz.xc,hzz.mc⟩
  have HN:Hid (jY n m=g):=by show _ = _;rw[HN0.out,hg,HLL.out,HF.out];rfl
  have HL:Hid (mB n m=[fI g m (m.index+(m.ents.length:Int)) true]):=by show _ = _;rw[HL0.out,hg,HF.out];rfl
  have vM:=vM5;have vR:=vR5;have hb:=hb5;clear hg hsg vA5 vM5 vR5 hb5 hMF hL5;have hd:RB W5 W5.drew:=(Below.refl _ _).drew;replace hb:=rt _ _ _ hb hd;replace vA:NdB W5.drew w.heap.size g sg:=vn vA hd;replace vM:MsB W5.drew (w.heap.size+1) m eo ec:=vn vM hd;replace vR:NdB W5.drew (w.heap.size+1+1) aU aP:=vn vR hd;have hM:NdM W5.drew g sg:=hM5.next hd;have hbs:=hb.size;clear hd
  refine cY (by kernel_rfl) (by kernel_rfl) 5 [0,1,2,3,4] [4,6] (by kernel_rfl) (by kernel_rfl)
   (fun u v=>u.grownBy v (some (w.heap.size+1+1))/\aG u (w.heap.size+1+1) 27)
   (fun W5=>NdB W5 (w.heap.size+1+1) g sg/\NdM W5 g sg/\RB w W5)
   (fun a b h hR=>⟨vn h.1 hR,h.2.1.next hR,rt _ _ _ h.2.2 hR⟩)
   [isV (aX g sg),isV (aX g sg),isV (eS m eo ec),isV (.int .i64 (m.index+(m.ents.length:Int))),NetV w.heap.size [fI g m (m.index+(m.ents.length:Int)) true],fun _ _=>True,NetV w.heap.size [fI g m (m.index+(m.ents.length:Int)) true]]
   ⟨iR,iR,iR,iR,NetV.rb,fun _ _ _ h _=>h,NetV.rb,trivial⟩ ?_ ?_ (kR ?_) _ rfl rfl ?_ ?_
  ·intro i hi v a b h hx
   simp only[List.mem_cons,List.not_mem_nil,or_false]at hi;rcases hi with rfl|rfl
   ·exact NetV.gr h hx.1 hx.2
   ·exact NetV.gr h hx.1 hx.2
  ·intro i hi o ho
   simp only[List.mem_cons,List.not_mem_nil,or_false]at hi;rcases hi with rfl|rfl|rfl|rfl|rfl<;>(obtain rfl:=oI ho)
   ·exact oq rfl fun ev w' v hR E pr=>by
     have e1:=E.was 2 _;exact bD rfl e1 (vA.next hR)
   ·exact oq rfl fun ev w' v hR E pr=>by
     have e1:=E.was 2 _;exact bD rfl e1 (vA.next hR)
   ·exact oq rfl fun ev w' v hR E pr=>by
     have e1:=E.was 3 _;exact gJ rfl e1 (vM.next hR)
   ·exact ow 8
   ·refine OpOk.call rfl fun ev w' v hR E pr=>?_
    have e1:=E.eq pr 1 60;have e2:=E.eq pr 2 61;have e3:=E.eq pr 3 62;refine⟨75,#[aX g sg,eS m eo ec,.int .i64 (m.index+(m.ents.length:Int)),.bool true],by simp[go_sem,e1,e2,e3,E.con,E.fn],(lP g sg m eo ec (m.index+(m.ents.length:Int)) true _).mono ?_⟩;rintro e w2 ⟨v2,rfl,hn,hb2⟩;exact⟨_,rfl,hb2,NetV.from hn (Nat.le_trans hbs hR.size)⟩
  ·refine aD rfl (aD rfl (aD rfl (aD rfl (aD rfl (aD rfl (aM ?_ trivial))))))
   intro ev w5 v hR E pr;exact⟨ev (.tmp 63),w5,by simp[go_sem],rr _,E.kept pr 4 63⟩
  ·intro ev w5 v hR E hp
   have E1:ev (.tmp 59)=aX (g) (sg):=E.get hp 0 59;have E2:ev (.tmp 4)=.pointer (some ⟨w.heap.size+1+1,0,none⟩):=E.was 4 _;have vR':=vn vR hR;have hg:w5.grownBy (setL w5 (w.heap.size+1+1) 0 (aJ (g) (sg))) (some (w.heap.size+1+1)):=bP _ _ 0 _;exact⟨_,bU (aJ (g) (sg)) rfl E2 E1 vR' (by kernel_rfl) (cD (by kernel_rfl)),⟨hg,vR'.typed⟩,bE _ vR',(hM.next hR).gr hg (bA vR') (by decide) (by decide),aV (rt _ _ _ hb hR) hg (by omega)⟩
  ·intro v8 w8 hP8 hk8
   have k8:NetV w.heap.size [fI g m (m.index+(m.ents.length:Int)) true] (v8 6) w8:=hk8 6 (by decide) (nb (by kernel_rfl)) (by decide);simp only[bF,Nat.zero_add,Nat.reduceAdd,Act.put,sY,sZ,ss];obtain⟨hv9,hM9,hb9⟩:=hP8;obtain⟨q0,q1,q2,q3,q4,q5,q6,q7,q8,q9⟩:=cN hv9;go_wp2;exact bodyPost_ret (v:=.tuple #[aX g sg,v8 6]) (by simp[results,Tryz.results35,go_sem,q0,q1,q2,q3,q4,q5,q6,q7,q8,q9]) rfl (by rw[HN.out,HL.out];exact⟨sg,v8 6,rfl,hM9,hK,k8,hb9⟩)
def cF(n:Nd)(i:Nat):Nd:=⟨n.id,n.peers,n.term,n.vote,n.log,n.role,n.commit,n.votes,n.next,n.mat.set i n.log.length⟩
def gU(n:Nd)(i:Nat):Nd:=⟨n.id,n.peers,n.term,n.vote,n.log,n.role,lH (cF n i),n.votes,n.next,n.mat.set i n.log.length⟩
theorem rH(n:Nd)(i:Nat)(s:NdS):aJ (cF n i) s=aJ n s:=by simp[cF]
theorem jI(n:Nd)(s:NdS)(hz:NdZ n s)(base i:Nat)(hid:n.id=i)(hil:i<n.mat.length)(hc:0<=n.commit)(w:World)(hbs:base<=w.heap.size)(hO:NdO w base n s):Calls Tryz.prog 60 #[aX n s] w fun e w'=>e=.returned (aX (gU n i) s)/\NdO w' base (gU n i) s/\w.grownBy w' (dI s.mo):=by
 have hz2:NdZ (cF n i) s:=⟨hz.l,hz.v,hz.x,by simp[cF];exact hz.m,hz.lc,hz.vc,hz.xc,by simp[cF];exact hz.mc,hz.tx⟩
 have hzl:=hz.l;have hzm:=hz.m;clear hz;obtain⟨lo,lc,vo,vc,no,nc,mo,mc⟩:=s;obtain⟨g,e,hgb,_⟩:=hO.m.vh (by show 0<n.mat.length;omega);simp only at e;subst e;have hb:=rt _ _ _ (ra w (.cells (aJ n ⟨lo,lc,vo,vc,no,nc,some ⟨g,0,none⟩,mc⟩).toArray 27)) (ra _ (.cells (aJ aU aP).toArray 27));have vA:NdB _ w.heap.size n ⟨lo,lc,vo,vc,no,nc,some ⟨g,0,none⟩,mc⟩:=(aH w n ⟨lo,lc,vo,vc,no,nc,some ⟨g,0,none⟩,mc⟩).next (ra _ (.cells (aJ aU aP).toArray 27));have vR:=aH (w.alloc (.cells (aJ n ⟨lo,lc,vo,vc,no,nc,some ⟨g,0,none⟩,mc⟩).toArray 27)) aU aP;rw[World.size_alloc]at vR;replace hO:=hO.next hb;have hi1:(i:Int)<(n.mat.length:Int):=by omega
 have hi0:(0:Int)<=(i:Int):=by omega
 have hit:(i:Int).toNat=i:=by omega
 have HID:Hid (n.id=i):=hid;clear hid;go_enter Tryz.func60,Tryz.ntmps60
 go_wp2_with fail
 have hid:=HID.out;generalize ((w.alloc _).alloc _)=W at hb vA vR hO ⊢;have hd:RB W W.drew:=(Below.refl _ _).drew;replace hb:=rt _ _ _ hb hd;replace vA:NdB W.drew w.heap.size n ⟨lo,lc,vo,vc,no,nc,some ⟨g,0,none⟩,mc⟩:=vn vA hd;replace vR:NdB W.drew (w.heap.size+1) aU aP:=vn vR hd;replace hO:=hO.next hd
 refine bW (by kernel_rfl) (by kernel_rfl) (by kernel_rfl) RB rr rt
  [isV (.pointer (some ⟨w.heap.size,9,none⟩)),isV (.slice (some ⟨g,0,none⟩) n.mat.length mc),isV (.pointer (some ⟨w.heap.size,0,none⟩)),isV (.int .i64 n.id),isV (aX n ⟨lo,lc,vo,vc,no,nc,some ⟨g,0,none⟩,mc⟩),isV (.int .i64 (n.log.length:Int)),isV (.pointer (some ⟨g,i,none⟩))]
  ⟨iR,iR,iR,iR,iR,iR,iR,trivial⟩ rfl ?_ _ rfl rfl rfl
  (fun v w''=>NdO w'' base (cF n i) ⟨lo,lc,vo,vc,no,nc,some ⟨g,0,none⟩,mc⟩/\NdB w'' w.heap.size (cF n i) ⟨lo,lc,vo,vc,no,nc,some ⟨g,0,none⟩,mc⟩/\NdB w'' (w.heap.size+1) aU aP/\w.grownBy w'' (some g)) ?_ ?_
 ·simp only[List.size_toArray,List.length_cons,List.length_nil,Nat.reduceAdd,Nat.reduceSub,List.take_succ_cons,List.take_zero]
  refine⟨?_,?_,?_,?_,?_,?_,?_,trivial⟩
  ·exact ow 1
  ·exact oc 0 3 fun _ hR=>(vA.next hR).cell (j:=9) (by omega)
  ·exact ow 1
  ·exact oc 2 5 fun _ hR=>(vA.next hR).cell (j:=0) (by omega)
  ·exact oq rfl fun ev w' v hR E pr=>by
    have e1:=E.was 1 _;exact bD rfl e1 (vA.next hR)
  ·exact OpOk.ret _ (fun _=>rfl) fun ev w' v hR E pr=>by
    have e1:=E.eq pr 4 7;refine⟨46,#[aX n ⟨lo,lc,vo,vc,no,nc,some ⟨g,0,none⟩,mc⟩],by simp[go_sem,gv,e1,E.fn],?_⟩;exact gD n ⟨lo,lc,vo,vc,no,nc,some ⟨g,0,none⟩,mc⟩ hzl _
  ·exact oq rfl fun ev w' v hR E pr=>by
    have e1:=E.eq pr 1 4;have e2:=E.eq pr 3 6;simp[go_sem,hid,hi1,hi0,hit,e1,e2]
 ·intro ev w' v hR E hp
  obtain⟨_,_,_,_,_,p5,p6,_⟩:=hp;replace p5:v 5=.int .i64 (n.log.length:Int):=p5;replace p6:v 6=.pointer (some ⟨g,i,none⟩):=p6;have E1:=E.at_ 5 8 rfl (by kernel_rfl) (nb (by kernel_rfl));have E2:=E.at_ 6 9 rfl (by kernel_rfl) (nb (by kernel_rfl));rw[p5]at E1;rw[p6]at E2;have hO':=hO.next hR;obtain⟨g',e',hgb,hv⟩:=hO'.m.vh (by show 0<n.mat.length;omega);cases e';have hg:=aC w' g i (.int .i64 (n.log.length:Int));have hgt:∀ x,some g=some x->aG w' x 2:=fun x e=>by cases e;exact hv.typed
  have hnv:dI vo≠some g:=fun e=>hO'.vm g e rfl
  have hnx:dI no≠some g:=fun e=>hO'.xm g e rfl
  refine⟨_,cI rfl E2 E1 hv (by omega) (by kernel_rfl) rfl rfl,⟨hO'.l.gr hg hgt (by decide),hO'.v.apart hg hnv,hO'.x.apart hg hnx,hO'.m.set i hil _,hO'.vx,hO'.vm,hO'.xm⟩,?_,VHas.gr (vn vR hR) hg hgt (by decide),?_⟩
  ·have:=VHas.gr (vn vA hR) hg hgt (by decide)
   rw[<-rH]at this;exact this
  ·have h9:=rt _ _ _ hb hR
   exact⟨hg.os.trans h9.os,hg.tape.trans h9.tape,hg.output.trans h9.output,Nat.le_trans h9.size hg.size,fun k hk hne=>(hg.block k (Nat.lt_of_lt_of_le hk h9.size) hne).trans (h9.block k hk)⟩
 ·rintro v w2 ⟨hO2,vA2,vR2,hg2⟩
  simp only[List.size_toArray,List.length_cons,List.length_nil,Nat.reduceAdd,Nat.reduceSub,List.take_succ_cons,List.take_zero,bF,Act.put,sY,sZ,ss];obtain⟨d0,d1,d2,d3,d4,d5,d6,d7,d8,d9⟩:=cN vA2
  go_wp2_with fail
  refine (pI (cF n i) ⟨lo,lc,vo,vc,no,nc,some ⟨g,0,none⟩,mc⟩ hz2 hc _ hO2.M).mono ?_;rintro e w3 ⟨rfl,hb3⟩;clear d0 d1 d2 d3 d4 d5 d6 d7 d8 d9;replace hO2:=hO2.next hb3;replace vA2:NdB w3 w.heap.size (cF n i) ⟨lo,lc,vo,vc,no,nc,some ⟨g,0,none⟩,mc⟩:=vn vA2 hb3;replace vR2:NdB w3 (w.heap.size+1) aU aP:=vn vR2 hb3;have hsz2:w.heap.size<=w2.heap.size:=hg2.size;replace hg2:w.grownBy w3 (some g):=⟨hb3.os.trans hg2.os,hb3.tape.trans hg2.tape,hb3.output.trans hg2.output,Nat.le_trans hg2.size hb3.size,fun k hk hne=>(hb3.block k (Nat.lt_of_lt_of_le hk hsz2)).trans (hg2.block k hk hne)⟩
  go_wp2_with (first|(with_reducible refine wN 2 (.tmp 12) (.tmp 11) w.heap.size 6 (.int .i64 (lH (cF n i))) (gU n i) ⟨lo,lc,vo,vc,no,nc,some ⟨g,0,none⟩,mc⟩ vA2 ?_;intro W4 vA4 hg4;have hO4:=hO2.gr hg4 (bA vA2) (by decide) (by decide);have vR4:NdB W4 (w.heap.size+1) aU aP:=VHas.grown vR2 hg4 (fun e=>by have:=oI e;omega);obtain⟨d0,d1,d2,d3,d4,d5,d6,d7,d8,d9⟩:=cN vA4)|(with_reducible refine wB 27 (.tmp 2) (.tmp 13) (w.heap.size+1) (aJ (gU n i) ⟨lo,lc,vo,vc,no,nc,some ⟨g,0,none⟩,mc⟩) vR4 ?_;intro W9 hv9 hg9))
  obtain⟨q0,q1,q2,q3,q4,q5,q6,q7,q8,q9⟩:=cN hv9
  have hO9:NdO W9 base (gU n i) ⟨lo,lc,vo,vc,no,nc,some ⟨g,0,none⟩,mc⟩:=by
   have h1:=hO4.gr hg9 (bA vR4) (by decide) (by decide);exact⟨h1.l,h1.v,h1.x,h1.m,h1.vx,h1.vm,h1.xm⟩
  have hgg:w.grownBy W9 (some g):=⟨hg9.os.trans (hg4.os.trans hg2.os),hg9.tape.trans (hg4.tape.trans hg2.tape),hg9.output.trans (hg4.output.trans hg2.output),Nat.le_trans hg2.size (Nat.le_trans hg4.size hg9.size),fun k hk hne=>(hg9.block k (Nat.lt_of_lt_of_le hk (Nat.le_trans hg2.size hg4.size)) (fun e=>by have:=oI e;omega)).trans ((hg4.block k (Nat.lt_of_lt_of_le hk hg2.size) (fun e=>by have:=oI e;omega)).trans (hg2.block k hk hne))⟩
  exact bodyPost_ret (v:=aX (gU n i) ⟨lo,lc,vo,vc,no,nc,some ⟨g,0,none⟩,mc⟩) (by simp[results,Tryz.results60,go_sem,q0,q1,q2,q3,q4,q5,q6,q7,q8,q9]) rfl ⟨rfl,hO9,hgg⟩
theorem Tryz.infoEn:(Tryz.prog.info? 47).map (fun i=>(i.zero,i.size,i.bytes))=some (some (.agg #[.int .i64 0,.string ByteArray.empty]),2,24):=by kernel_rfl
theorem Tryz.elEn:ElI Tryz.prog 24 47 2 24:=⟨Tryz.underlying24,by
 obtain⟨i0,hi0,hz0,hz1,hz2⟩:=info_parts Tryz.infoEn
 exact⟨i0,_,hi0,hz0,hz1,hz2,rfl⟩,by omega,by omega⟩
def FM(t:ByteArray):Bool:=(cW (rJ t.data.toList)).isSome
def K3(n:Nd)(t:ByteArray):Bool:=FM t&&((n.role==3)&&gP n)
def iO(n:Nd)(t:ByteArray):Nd:=⟨n.id,n.peers,n.term,n.vote,n.log++[⟨n.term,t⟩],n.role,n.commit,n.votes,n.next,n.mat⟩
def S4(n:Nd)(t:ByteArray):Nd:=if bY n=true then (if K3 n t=true then gU (iO n t) n.id.toNat else n) else aU
def GC(n:Nd)(t:ByteArray):Int:=if bY n=true then (if K3 n t=true then n.log.length+1 else -1) else -1
theorem OwE.more{w:World}{base:Nat}{ao:Option Addr}{cap:Nat}{l:List En}{x:En}(h:GOwn w base 47 2 ao (l.length+1) cap (fun j=>if j<l.length*2 then lf (dZ l) j else lf [.int .i64 x.t,.string x.x] (j-l.length*2))):OwE w base ao cap (l++[x]):=by
 unfold OwE;rw[List.length_append];refine GOwn.congr h (fun j hj=>?_);have e:dZ (l++[x])=dZ l++[.int .i64 x.t,.string x.x]:=by rw[rS];rfl
 rw[e,mT,dE]
theorem NdO.K{w:World}{base:Nat}{n:Nd}{s:NdS}(h:NdO w base n s):NdK n s:=⟨GOwn.cap h.l,GOwn.cap h.v,GOwn.cap h.x,GOwn.cap h.m⟩
end
end Go.Proofs.YtbabakgjkloabaaGreatDoor
