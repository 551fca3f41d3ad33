/-
  Helpers: Rcv, Lv0, DoA, CurT, DrawLg, DrawB.
-/
import Derived.Test.YtbabakgjkloabaaGreatDoorPack22
set_option linter.unusedVariables false
set_option linter.unusedSimpArgs false
set_option maxRecDepth 100000
set_option maxHeartbeats 16000000
namespace Go.Proofs.YtbabakgjkloabaaGreatDoor
section
open Go Go.RowKit
attribute [local go_sem ↓] Go.wp_at_zero Go.wp_at_succ
def ivN(n:Nd)(m:Ms):Nd:=if bY n=true then cK n m else aU
def ivL(n:Nd)(m:Ms):List Ms:=if bY n=true then eT n m else []
structure RV(w:World)(bn:Nat)(N:Nd)(sN:NdS)(m:Ms)(eo:Option Addr)(ec:Nat)(W:World):Prop where
 a:NdB W bn N sN
 m:MsB W (w.heap.size+1) m eo ec
 r:NdB W (w.heap.size+1+1) aU aP
 o:NdO W w.heap.size N sN
 b:RB w W
 s:w.heap.size+1+1<bn
theorem RV.next{w W W':World}{b:Nat}{N:Nd}{sN:NdS}{m:Ms}{eo:Option Addr}{ec:Nat}(h:RV w b N sN m eo ec W)(hb:RB W W'):RV w b N sN m eo ec W':=
 ⟨vn h.a hb,vn h.m hb,vn h.r hb,h.o.next hb,rt _ _ _ h.b hb,h.s⟩
theorem RV.put{w W W':World}{b:Nat}{N N':Nd}{sN sN':NdS}{m:Ms}{eo:Option Addr}{ec:Nat}(h:RV w b N sN m eo ec W)(v:NdB W' b N' sN')(o:NdO W' w.heap.size N' sN')(g:W.grownBy W' (some b)):RV w b N' sN' m eo ec W':=by
 have hs:=h.s;exact⟨v,VHas.grown h.m g (fun e=>by have:=oI e;omega),VHas.grown h.r g (fun e=>by have:=oI e;omega),o,aV h.b g (by omega),hs⟩
theorem RV.far{w W W':World}{b k:Nat}{N:Nd}{sN:NdS}{m:Ms}{eo:Option Addr}{ec:Nat}{t:TypeId}(h:RV w b N sN m eo ec W)(g:W.grownBy W' (some k))(hk:w.heap.size<=k)(hT:aG W k t)(h1:27≠t)(h2:29≠t)(h3:47≠t)(h4:2≠t):RV w b N sN m eo ec W':=by
 have hx:∀ x,some k=some x->aG W x t:=fun x e=>by cases e;exact hT
 exact⟨VHas.gr h.a g hx h1,VHas.gr h.m g hx h2,VHas.gr h.r g hx h1,h.o.gr g hx h3 h4,aV h.b g hk,h.s⟩
def NmV(n:Nd)(v:Value)(w:World):Prop:=∃ s,v=aX n s/\NdM w n s/\NdK n s
theorem NmV.rb{n:Nd}(v:Value)(w w':World)(h:NmV n v w)(hb:RB w w'):NmV n v w':=by
 obtain⟨s,e,h1,h2⟩:=h;exact⟨s,e,h1.next hb,h2⟩
def RmV(H:Nat)(n:Nd)(l:List Ms)(v:Value)(w:World):Prop:=∃ s u,v=.tuple #[aX n s,u]/\NdM w n s/\NdK n s/\NetV H l u w
theorem RmV.rb{H:Nat}{n:Nd}{l:List Ms}(v:Value)(w w':World)(h:RmV H n l v w)(hb:RB w w'):RmV H n l v w':=by
 obtain⟨s,u,e,h1,h2,h3⟩:=h;exact⟨s,u,e,h1.next hb,h2,NetV.rb _ _ _ h3 hb⟩
theorem RmV.gr{H:Nat}{n:Nd}{l:List Ms}{v:Value}{w w':World}{b:Nat}(h:RmV H n l v w)(hg:w.grownBy w' (some b))(hT:aG w b 27):RmV H n l v w':=by
 obtain⟨s,u,e,h1,h2,h3⟩:=h;exact⟨s,u,e,h1.gr hg (fun x e=>by cases e;exact hT) (by decide) (by decide),h2,NetV.gr h3 hg hT⟩
def BxM(b:Nat)(n:Nd)(v:Value)(w:World):Prop:=∃ s,v=aX n s/\NdB w b n s/\NdM w n s/\NdK n s
theorem BxM.rb{b:Nat}{n:Nd}(v:Value)(w w':World)(h:BxM b n v w)(hb:RB w w'):BxM b n v w':=by
 obtain⟨s,e,h1,h2,h3⟩:=h;exact⟨s,e,vn h1 hb,h2.next hb,h3⟩
theorem X7(n:Nat)(T:Nat->Int)(X:Nat->ByteArray)(i:Int)(m:Nat)(U:Nat->Int)(Y:Nat->ByteArray):lB n T X i m U Y<=200:=by
 unfold lB
 split
 ·rename_i h
  unfold mD at h;simp only[Bool.and_eq_true]at h;exact (xB h.2.2.2).1
 ·omega
theorem DR{n:Nd}{m:Ms}(h:qX n m=true)(hl:n.log.length<=200):0<=m.index/\m.index<=2000000:=by
 simp only[qX,Bool.and_eq_true]at h;have:=of_decide_eq_true h.1.2;have h1:=this.1;have h2:=this.2.1;exact⟨h1,by omega⟩
theorem NdM.vy{n:Nd}{m:Ms}{s:NdS}{w:World}(h:NdM w n s):NdM w (rK n m) s:=by
 unfold rK
 split
 ·exact⟨h.l,h.v,h.x,h.m⟩
 ·exact h
theorem NdK.vy{n:Nd}{m:Ms}{s:NdS}(h:NdK n s):NdK (rK n m) s:=by
 unfold rK
 split
 ·exact⟨h.l,h.v,h.x,h.m⟩
 ·exact h
def EE:List Value:=[.nilFunc,.func (.func 33) #[] #[],.func (.func 34) #[] #[],.func (.func 35) #[] #[],.func (.func 36) #[] #[]]
theorem zV(n:Nd)(s:NdS)(hz:NdZ n s)(m:Ms)(eo:Option Addr)(ec:Nat)(hmz:MsZ m)(hix:-9223372036854775808<=m.index/\m.index<=9223372036854775807)(aL aE aO:Addr)(w:World)(hG:GlE w aL aE aO)(hM:NdM w n s)(hE:MsM w m eo ec):Calls Tryz.prog 7 #[aX n s,eS m eo ec] w fun e w'=>CR (ivN n m) (ivL n m) w w' e:=by
 have hb:=rt _ _ _ (rt _ _ _ (ra w (.cells (aJ n s).toArray 27)) (ra _ (.cells (bZ m eo ec).toArray 29))) (ra _ (.cells (aJ aU aP).toArray 27));have vA:NdB _ w.heap.size n s:=((aH w n s).next (ra _ (.cells (bZ m eo ec).toArray 29))).next (ra _ (.cells (aJ aU aP).toArray 27));have vM:MsB _ (w.alloc (.cells (aJ n s).toArray 27)).heap.size m eo ec:=(bJ (w.alloc (.cells (aJ n s).toArray 27)) m eo ec).next (ra _ (.cells (aJ aU aP).toArray 27));have vR:=aH ((w.alloc (.cells (aJ n s).toArray 27)).alloc (.cells (bZ m eo ec).toArray 29)) aU aP;rw[World.size_alloc]at vM;rw[World.size_alloc,World.size_alloc]at vR;have HG:Hid (∀ W,RB w W->GlE W aL aE aO):=fun W h=>hG.next h
 have HE:Hid (∀ W,RB w W->MsM W m eo ec):=fun W h=>hE.next h
 have HM:Hid (∀ W,RB w W->NdM W n s):=fun W h=>hM.next h
 clear hG hE hM;go_enter Tryz.func7,Tryz.ntmps7;refine aW fun K0 hK0=>?_
 go_wp2;refine hK0.out _ _ ?_;clear hK0;generalize (((w.alloc _).alloc _).alloc _)=W0 at hb vA vM vR ⊢;obtain⟨f0,f1,f2,f3,f4,f5,f6,f7,f8,f9⟩:=cN vA
 go_wp2_with fail
 clear f0 f1 f2 f3 f4 f5 f6 f7 f8 f9;refine (jT n s hz aL aE aO _ (HG.out _ hb).g (HM.out _ hb)).mono ?_;rintro e W ⟨rfl,hb1⟩;replace hb:=rt _ _ _ hb hb1;replace vA:NdB W w.heap.size n s:=vn vA hb1;replace vM:MsB W (w.heap.size+1) m eo ec:=vn vM hb1;replace vR:NdB W (w.heap.size+1+1) aU aP:=vn vR hb1;clear hb1;obtain⟨f0,f1,f2,f3,f4,f5,f6,f7,f8,f9⟩:=cN vA;rcases bq (bY n) with hB|hB
 rotate_left
 ·rw[hB]
  have HN:Hid (ivN n m=aU):=by show _ = _;simp[ivN,hB]
  have HL:Hid (ivL n m=[]):=by show _ = _;simp[ivL,hB]
  clear hB f0 f1 f2 f3 f4 f5 f6 f7 f8 f9
  go_wp2_with (first|((with_reducible refine wB 27 (.tmp 4) (.tmp 11) ((w.heap.size+1+1)) (aJ (aU) (aP)) vR ?_);intro W9 hv9 hg9)|fail)
  obtain⟨q0,q1,q2,q3,q4,q5,q6,q7,q8,q9⟩:=cN hv9;exact bodyPost_ret (v:=.tuple #[aX aU aP,.slice none 0 0]) (by simp[results,Tryz.results7,go_sem,q0,q1,q2,q3,q4,q5,q6,q7,q8,q9]) rfl (by rw[HN.out,HL.out];exact⟨aP,_,rfl,(lE _ 0).M,(lE W9 0).K,jG _ _,aV hb hg9 (by omega)⟩)
 rw[hB];have HIN:Hid (ivN n m=cK n m):=by show _ = _;simp[ivN,hB]
 have HIL:Hid (ivL n m=eT n m):=by show _ = _;simp[ivL,hB]
 replace hB:Hid _:=hB
 go_wp2_with fail
 clear f0 f1 f2 f3 f4 f5 f6 f7 f8 f9;refine (sT n s hz _ (HM.out _ hb)).mono ?_;rintro e w2 ⟨s2,rfl,hO,hb2⟩;have hz2:NdZ n s2:=⟨hz.l,hz.v,hz.x,hz.m,hO.K.l,hO.K.v,hO.K.x,hO.K.m,hz.tx⟩
 have hwW:=hb.size;replace hb:=rt _ _ _ hb hb2;replace vM:=vn vM hb2;replace vR:=vn vR hb2;clear hb2 vA hz;have hal:=ra w2 (.cells (aJ aU aP).toArray 27);have vN0:=aH w2 aU aP;have h0:w.heap.size+1+1<w2.heap.size:=VHas.lt vR;replace vM:MsB _ (w.heap.size+1) m eo ec:=vn vM hal;replace vR:NdB _ (w.heap.size+1+1) aU aP:=vn vR hal;replace hO:=hO.next hal;replace hb:=rt _ _ _ hb hal;clear hal
 go_upto_region 4 with (first|((with_reducible refine wB 27 (.tmp 6) (.tmp 13) (w2.heap.size) (aJ (n) (s2)) vN0 ?_);intro W3 v3 g3)|fail)
 have h3:RV w w2.heap.size n s2 m eo ec W3:=⟨v3,VHas.grown vM g3 (fun e=>by have:=oI e;omega),VHas.grown vR g3 (fun e=>by have:=oI e;omega),⟨(hO.gr g3 (bA vN0) (by decide) (by decide)).l.from hwW,(hO.gr g3 (bA vN0) (by decide) (by decide)).v.from hwW,(hO.gr g3 (bA vN0) (by decide) (by decide)).x.from hwW,(hO.gr g3 (bA vN0) (by decide) (by decide)).m.from hwW,hO.vx,hO.vm,hO.xm⟩,aV hb g3 (by omega),h0⟩
 clear vM vR hO hb v3 g3 vN0 hwW;generalize w2.heap.size=bN at h3 h0 ⊢;obtain⟨f0,f1,f2,f3,f4,f5,f6,f7,f8,f9⟩:=cN h3.a;obtain⟨g0,g1,g2,g3,g4,g5,g6,g7,g8⟩:=cM h3.m
 go_wp2_with fail
 refine (P8 n s2 m eo ec hmz.l hmz.x aL aE aO _ (HG.out _ h3.b).g (HE.out _ h3.b).e).mono ?_;rintro e W4 ⟨rfl,hb4⟩;have h4:=h3.next hb4;clear hb4 h3 f0 f1 f2 f3 f4 f5 f6 f7 f8 f9 g0 g1 g2 g3 g4 g5 g6 g7 g8;obtain⟨f0,f1,f2,f3,f4,f5,f6,f7,f8,f9⟩:=cN h4.a;obtain⟨g0,g1,g2,g3,g4,g5,g6,g7,g8⟩:=cM h4.m;rcases bq (gV n m) with hF|hF
 rotate_left
 ·rw[hF]
  have HN:Hid (ivN n m=n):=by show _ = _;rw[HIN.out];simp[cK,hF]
  have HL:Hid (ivL n m=[]):=by show _ = _;rw[HIL.out];simp[eT,hF]
  clear hF HIN HIL
  go_wp2_with (first|((with_reducible refine wB 27 (.tmp 4) (.tmp 18) ((w.heap.size+1+1)) (aJ (n) (s2)) h4.r ?_);intro W9 hv9 hg9)|fail)
  obtain⟨q0,q1,q2,q3,q4,q5,q6,q7,q8,q9⟩:=cN hv9;have o9:=h4.o.gr hg9 (bA h4.r) (by decide) (by decide);exact bodyPost_ret (v:=.tuple #[aX n s2,.slice none 0 0]) (by simp[results,Tryz.results7,go_sem,q0,q1,q2,q3,q4,q5,q6,q7,q8,q9]) rfl (by rw[HN.out,HL.out];exact⟨s2,_,rfl,o9.M,o9.K,jG _ _,aV h4.b hg9 (by omega)⟩)
 rw[hF];have HN0:Hid (ivN n m=gE (rc1 n m) m):=by show _ = _;rw[HIN.out];simp[cK,hF]
 have HL0:Hid (ivL n m=iQ (rc1 n m) m):=by show _ = _;rw[HIL.out];simp[eT,hF]
 clear HIN HIL;simp only[gV,Bool.and_eq_true,decide_eq_true_eq]at hF;obtain⟨_,_,hfr,hk1,hk4,ht1,ht2,hle,_⟩:=hF;have hfr':0<=m.frm/\m.frm<n.peers:=by simpa[dS] using hfr
 clear hfr
 go_upto_if 23 with fail
 go_cut [] from 18 to 23 (fun wc=>∃ N s',RV w bN N s' m eo ec wc/\rc1 n m=N/\NkR N/\NdZ N s'/\N.peers=n.peers)
 case first=>
  by_cases hup:n.term<m.term
  rotate_left
  ·go_wp2
   go_meet
   case rel=>exact⟨n,s2,h4,if_neg (by omega),pZ hB.out,hz2,rfl⟩
  obtain⟨lo,lc,vo,vc,no,nc,mo,mc⟩:=s2
  go_wp2_with fail
  clear f0 f1 f2 f3 f4 f5 f6 f7 f8 f9 g0 g1 g2 g3 g4 g5 g6 g7 g8;refine (nX n ⟨lo,lc,vo,vc,no,nc,mo,mc⟩ _).mono ?_;rintro e W5 ⟨rfl,hb5⟩;have h5:=h4.next hb5;clear hb5 h4;obtain⟨g0,g1,g2,g3,g4,g5,g6,g7,g8⟩:=cM h5.m;have hz5:=hz2;clear hz2
  go_wp2_with (first|((with_reducible refine wB 27 (.tmp 6) (.tmp 25) (bN) (aJ ((bV n)) ((rB ⟨lo,lc,vo,vc,no,nc,mo,mc⟩))) h5.a ?_);intro Wa va ga;have vMa:MsB Wa (w.heap.size+1) m eo ec:=VHas.grown h5.m ga (fun e=>by have:=oI e;have:=h5.s;omega);clear g0 g1 g2 g3 g4 g5 g6 g7 g8;obtain⟨g0,g1,g2,g3,g4,g5,g6,g7,g8⟩:=cM vMa)|((with_reducible refine wN 2 (.tmp 28) (.tmp 27) (bN) 2 (.int .i64 m.term) ((⟨n.id,n.peers,m.term,n.vote,n.log,1,n.commit,[],[],[]⟩:Nd)) (⟨lo,lc,none,0,none,0,none,0⟩) va ?_);intro Wb vb gb)|((with_reducible refine cG rfl 2 (.tmp 29) (.const (.int .i64 (-1))) rfl rfl (bN) 3 (.int .i64 (-1)) (by simp[go_sem]) (by simp[go_sem]) ((lJ n m.term)) (⟨lo,lc,none,0,none,0,none,0⟩) vb (by omega) (by kernel_rfl) (by kernel_rfl) (dT (by kernel_rfl)) (by kernel_rfl) ?_);intro Wc vc gc)|fail)
  go_meet
  case rel=>
   have oa:=h5.o.gr ga (bA h5.a) (by decide) (by decide);have ob:=oa.gr gb (bA va) (by decide) (by decide);have oc:=ob.gr gc (bA vb) (by decide) (by decide);have oU:NdO Wc w.heap.size (lJ n m.term) ⟨lo,lc,none,0,none,0,none,0⟩:=oc.fol (n':=(lJ n m.term)) rfl rfl rfl rfl;exact⟨(lJ n m.term),⟨lo,lc,none,0,none,0,none,0⟩,h5.put vc oU ((ga.trans gb).trans gc),if_pos hup,kK hB.out ⟨ht1,ht2⟩,sF (kK hB.out ⟨ht1,ht2⟩) oU hz5.l hz5.tx (by simp[lJ]) (by simp[lJ]) (by simp[lJ]),rfl⟩
 case rest=>
  clear h4 f0 f1 f2 f3 f4 f5 f6 f7 f8 f9 g0 g1 g2 g3 g4 g5 g6 g7 g8 hz2;obtain⟨N,s',h5,hrc,hBN,hzN,hNp⟩:=hcut;rw[hrc]at HN0 HL0;rw[<-hNp]at hfr';replace hBN:Hid _:=hBN;clear hrc hNp hB;have h5S:w.heap.size<=wc.heap.size:=h5.b.size;have hal:=ra wc (.cells #[.nilFunc,.nilFunc,.nilFunc,.nilFunc,.nilFunc] 61);have vF0:=bH wc [.nilFunc,.nilFunc,.nilFunc,.nilFunc,.nilFunc] 61;replace h5:=h5.next hal;have hfb:w.heap.size<=wc.heap.size:=h5S;clear hal
  go_upto_region 11 with (first|((with_reducible refine gY rfl 61 (.tmp 7) (.tmp 30) rfl rfl wc.heap.size EE (by simp[go_sem,EE]) (by simp[go_sem,EE]) vF0 (by kernel_rfl) (cD (by kernel_rfl)) ?_);intro W6 v6 g6)|fail)
  have h6:=h5.far g6 hfb (VHas.typed vF0) (by decide) (by decide) (by decide) (by decide);clear h5 vF0 g6
  obtain⟨FK,hFK,hCF,HC⟩:∃ FK,lf EE m.kind.toNat=.func (.func FK) #[] #[]/\(∀ (args:Array Value) (W:World),(callFunc FK args).run Tryz.prog W=.ok (.enter FK args) W)/\∀ W5,RV w bN N s' m eo ec W5->Calls Tryz.prog FK #[aX N s',eS m eo ec] W5 fun e w8=>FS w.heap.size (gE N m) (iQ N m) W5 w8 e:=by
   have hk:m.kind=1\/m.kind=2\/m.kind=3\/m.kind=4:=by omega
   have hll:N.log.length<=200:=oV hBN.out.l;rcases hk with hk|hk|hk|hk
   ·refine⟨33,by rw[hk];rfl,fun args W=>by simp[go_sem],fun W5 h=>?_⟩
    refine (G4 N s' hzN m eo ec W5 h.o.M).mono ?_;rintro e w8 ⟨u,rfl,hv,hb⟩;have e1:(gE N m)=rK N m:=by simp[gE,hk]
    have e2:(iQ N m)=[eI (rK N m) m.frm (tV N m)]:=by simp[iQ,hk]
    rw[e1,e2];exact⟨s',u,rfl,(h.o.next hb).M.vy,h.o.K.vy,hv,Ch.of_rb hb⟩
   ·refine⟨34,by rw[hk];rfl,fun args W=>by simp[go_sem],fun W5 h=>?_⟩
    have e1:(gE N m)=rG N m:=by simp[gE,hk]
    have e2:(iQ N m)=wZ N m:=by simp[iQ,hk]
    rw[e1,e2];exact zC N s' hzN m eo ec hBN.out.p hBN.out.i hBN.out.c.1 hBN.out.v hfr' w.heap.size W5 h.b.size h.o
   ·refine⟨35,by rw[hk];rfl,fun args W=>by simp[go_sem],fun W5 h=>?_⟩
    have e1:(gE N m)=jY N m:=by simp[gE,hk]
    have e2:(iQ N m)=mB N m:=by simp[iQ,hk]
    rw[e1,e2];refine (yF N s' hzN m eo ec hmz hBN.out.c hix (fun q=>DR q hll) aL aE aO W5 (HG.out _ h.b) h.o.M (HE.out _ h.b) (Nat.le_trans (X7 _ _ _ _ _ _ _) (by omega))).mono ?_;rintro e w8 ⟨s,u,rfl,h1,h2,h3,hb⟩;exact⟨s,u,rfl,h1,h2,h3,Ch.of_rb hb⟩
   ·refine⟨36,by rw[hk];rfl,fun args W=>by simp[go_sem],fun W5 h=>?_⟩
    have e1:(gE N m)=jU N m m.frm.toNat:=by simp[gE,hk]
    have e2:(iQ N m)=[]:=by simp[iQ,hk]
    rw[e1,e2]
    refine (tR N s' hzN w.heap.size m.frm.toNat hBN.out.c.1 m eo ec (by omega) (fun q=>by
     obtain⟨x1,x2,x3⟩:=hBN.out.x q;have hpp:=hBN.out.p;have x4:m.frm.toNat<N.next.length:=by omega
     have x5:=x3 _ x4
     refine⟨x4,by omega,?_,?_,?_,?_⟩<;>omega) hix W5 h.b.size h.o).mono ?_
    rintro e w8 ⟨rfl,ho,hC⟩;exact⟨s',_,rfl,ho.M,ho.K,jG _ _,hC⟩
  replace HC:Hid _:=HC;clear HG HE HM hfr' hix;have hk0:0<=m.kind:=by omega
  have hk5:m.kind<5:=by omega
  have hkn:m.kind.toNat<5:=by omega
  have hd:RB W6 W6.drew:=(Below.refl _ _).drew;have hD:=h6.next hd;have hDF:VHas W6.drew wc.heap.size 61 5 (lf EE):=vn v6 hd;clear hd h6 v6
  refine D7 (by kernel_rfl) (by kernel_rfl) (by kernel_rfl) 6 (by kernel_rfl) (fun W5=>RV w bN N s' m eo ec W5/\VHas W5 wc.heap.size 61 5 (lf EE)) (fun W5=>RB w W5/\∃ f,VHas W5 (w.heap.size+1+1) 27 10 f) ⟨hD,hDF⟩ (fun i=>if i=6 then Ch w.heap.size else if i=9 then fun u v=>u.grownBy v (some (w.heap.size+1+1))/\aG u (w.heap.size+1+1) 27 else RB) [6,9]
   [isV (.pointer (some ⟨w.heap.size+1,0,none⟩)),isV (.int .i64 m.kind),isV (.pointer (some ⟨wc.heap.size,m.kind.toNat,none⟩)),isV (.func (.func FK) #[] #[]),isV (aX N s'),isV (eS m eo ec),RmV w.heap.size (gE N m) (iQ N m),NmV (gE N m),NetV w.heap.size (iQ N m),BxM (w.heap.size+1+1) (gE N m),NetV w.heap.size (iQ N m)]
   [(7,9)] [(9,7)] [(1,0),(2,1),(2,0),(3,2),(3,1),(3,0),(6,3),(6,4),(6,5),(6,2),(6,1),(6,0),(7,6),(8,6),(9,6),(10,9),(10,6)] (by kernel_rfl) (by kernel_rfl) ⟨iR,iR,iR,iR,iR,iR,RmV.rb,NmV.rb,NetV.rb,BxM.rb,NetV.rb,trivial⟩ (fun i h=>by simp at h;simp[h]) ?_ ?_ ?_
  ·intro i hi j hj hne hx hd v w1 w2 hp hR
   simp only[List.mem_cons,List.not_mem_nil,or_false]at hi;rcases hi with rfl|rfl
   ·have hj2:j<11:=hj
    have hj3:j=0\/j=1\/j=2\/j=3\/j=4\/j=5\/j=6\/j=7\/j=8\/j=9\/j=10:=by omega
    rcases hj3 with rfl|rfl|rfl|rfl|rfl|rfl|rfl|rfl|rfl|rfl|rfl
    ·exact hp
    ·exact hp
    ·exact hp
    ·exact hp
    ·exact hp
    ·exact hp
    ·exact absurd rfl hne
    ·exact absurd (by simp) hd
    ·exact absurd (by simp) hd
    ·exact absurd (by simp) hd
    ·exact absurd (by simp) hd
   ·have hj2:j<11:=hj
    have hj3:j=0\/j=1\/j=2\/j=3\/j=4\/j=5\/j=6\/j=7\/j=8\/j=9\/j=10:=by omega
    rcases hj3 with rfl|rfl|rfl|rfl|rfl|rfl|rfl|rfl|rfl|rfl|rfl
    ·exact hp
    ·exact hp
    ·exact hp
    ·exact hp
    ·exact hp
    ·exact hp
    ·exact RmV.gr hp hR.1 hR.2
    ·exact absurd rfl hx
    ·exact NetV.gr hp hR.1 hR.2
    ·exact absurd rfl hne
    ·exact absurd (by simp) hd
  ·refine⟨?_,?_,?_,?_,?_,?_,?_,?_,?_,?_,?_,trivial⟩
   ·refine .inl ⟨by kernel_rfl,by decide,?_⟩
    exact xq rfl rfl fun ev w9 v hG E pr=>by
     have e1:=E.was 3 _;simp[go_sem,e1]
   ·refine .inl ⟨by kernel_rfl,by decide,?_⟩
    exact xq rfl rfl fun ev w9 v hG E pr=>by
     have e1:ev (.tmp 31)=.pointer (some ⟨w.heap.size+1,0,none⟩):=E.tld pr 0 31;have cc:=hG.1.m.cell (j:=0) (by omega);simp[lf]at cc;simp[go_sem,cc,e1]
   ·refine .inl ⟨by kernel_rfl,by decide,?_⟩
    exact xq rfl rfl fun ev w9 v hG E pr=>by
     have e1:ev (.tmp 32)=.int .i64 m.kind:=E.tld pr 1 32;have e2:=E.was 7 _;simp[go_sem,e1,e2,hk0,hk5]
   ·refine .inl ⟨by kernel_rfl,by decide,?_⟩
    exact xq rfl rfl fun ev w9 v hG E pr=>by
     have e1:ev (.tmp 33)=.pointer (some ⟨wc.heap.size,m.kind.toNat,none⟩):=E.tld pr 2 33;have cc:=hG.2.cell (j:=m.kind.toNat) hkn;rw[hFK]at cc;simp[go_sem,cc,e1]
   ·refine .inl ⟨by kernel_rfl,by decide,?_⟩
    exact xq rfl rfl fun ev w9 v hG E pr=>by
     have e1:=E.was 6 _;exact bD rfl e1 hG.1.a
   ·refine .inl ⟨by kernel_rfl,by decide,?_⟩
    exact xq rfl rfl fun ev w9 v hG E pr=>by
     have e1:=E.was 3 _;exact gJ rfl e1 hG.1.m
   ·refine .inr (.inl ⟨rfl,by kernel_rfl,?_⟩)
    exact PtOk.call fun ev w9 v hG E pr=>by
     have e3:ev (.tmp 34)=.func (.func FK) #[] #[]:=E.tld pr 3 34;have e4:ev (.tmp 35)=aX N s':=E.tld pr 4 35;have e5:ev (.tmp 36)=eS m eo ec:=E.tld pr 5 36;refine⟨FK,#[aX N s',eS m eo ec],by simp[go_sem,e3,e4,e5,E.fn,hCF],?_⟩;refine (HC.out w9 hG.1).mono ?_;rintro e w8 ⟨s,u,rfl,h1,h2,h3,h4⟩;exact⟨_,rfl,h4,⟨CM hG.1.b h4,_,VHas.ch hG.1.r h4 (by decide) (by decide)⟩,s,u,rfl,h1,h2,NetV.from h3 hG.1.b.size⟩
   ·refine .inr (.inr ⟨by kernel_rfl,by decide,?_⟩)
    exact ExOk.val rfl fun ev w9 v hG E pr=>by
     obtain⟨s,u,e1,h1,h2,h3⟩:RmV w.heap.size (gE N m) (iQ N m) (ev (.tmp 37)) w9:=E.tld pr 6 37;exact⟨aX (gE N m) s,w9,by simp[go_sem,e1],rr _,hG,s,rfl,h1,h2⟩
   ·refine .inr (.inr ⟨by kernel_rfl,by decide,?_⟩)
    exact ExOk.val rfl fun ev w9 v hG E pr=>by
     obtain⟨s,u,e1,h1,h2,h3⟩:RmV w.heap.size (gE N m) (iQ N m) (ev (.tmp 37)) w9:=E.tld pr 6 37;exact⟨u,w9,by simp[go_sem,e1],rr _,hG,h3⟩
   ·refine .inr (.inr ⟨by kernel_rfl,by decide,?_⟩)
    exact ExOk.skip rfl (by decide) fun ev w9 v hG E pr=>by
     have e1:=E.was 4 _;obtain⟨s,e2,h1,h2⟩:NmV (gE N m) (ev (.tmp 38)) w9:=E.tld pr 7 38;obtain⟨f9,v9⟩:=hG.2;have hT9:=v9.typed;have hg:w9.grownBy (setL w9 (w.heap.size+1+1) 0 (aJ (gE N m) s)) (some (w.heap.size+1+1)):=bP _ _ 0 _;have e3:v 7=ev (.tmp 38):=(E.at_ 7 38 rfl (by kernel_rfl) (nb (by kernel_rfl))).symm;exact⟨_,bU (aJ (gE N m) s) rfl e1 e2 v9 (by kernel_rfl) (cD (by kernel_rfl)),⟨hg,hT9⟩,⟨aV hG.1 hg (by omega),_,bE _ v9⟩,s,e3.trans e2,bE _ v9,h1.gr hg (fun x e=>by cases e;exact hT9) (by decide) (by decide),h2⟩
   ·refine .inr (.inr ⟨by kernel_rfl,by decide,?_⟩)
    exact ExOk.val rfl fun ev w9 v hG E pr=>⟨ev (.tmp 39),w9,by simp[go_sem],rr _,hG,E.tld pr 8 39⟩
  ·intro v8 W8 hG8 hp8
   have p9:(BxM (w.heap.size+1+1) (gE N m)) (v8 7) W8:=hp8 9 (by decide) (by kernel_rfl);have p10:(NetV w.heap.size (iQ N m)) (v8 10) W8:=hp8 10 (by decide) (by kernel_rfl);clear hp8;simp only[bF,Nat.zero_add,Nat.reduceAdd,Act.put,sY,sZ,ss];obtain⟨s5,e5,hv9,hM9,hK9⟩:=p9;obtain⟨q0,q1,q2,q3,q4,q5,q6,q7,q8,q9⟩:=cN hv9;go_wp2;exact bodyPost_ret (v:=.tuple #[aX (gE N m) s5,v8 10]) (by simp[results,Tryz.results7,go_sem,q0,q1,q2,q3,q4,q5,q6,q7,q8,q9]) rfl (by rw[HN0.out,HL0.out];exact⟨s5,_,rfl,hM9,hK9,p10,hG8.1⟩)
end
section
open Go Go.RowKit
theorem GdW.eqr{n:Nd}(h:GdW n)(m:Ms):DK n m=ivN n m/\DL n m=ivL n m:=by
 unfold DK DL ivN ivL;rw[h.R];exact⟨rfl,rfl⟩
theorem xQ{n:Nd}(m:Ms)(hB:bY n=false):ivN n m=aU/\ivL n m=[]:=by
 unfold ivN ivL;rw[hB];exact⟨rfl,rfl⟩
theorem zT{n:Nd}(m:Ms)(hB:bY n=true):ivN n m=cK n m/\ivL n m=eT n m:=by
 unfold ivN ivL;rw[hB];exact⟨rfl,rfl⟩
theorem GdW.ivN{n:Nd}(h:GdW n)(m:Ms):AF (ivN n m):=by
 rcases bq (bY n) with hB|hB
 ·rw[(zT m hB).1]
  exact ((h.ok hB).rcv m).fewN
 ·rw[(xQ m hB).1]
  exact AG
theorem BO{n:Nd}(hp:n.peers<=5):G9 (wJ n):=by
 refine AH ?_;have e:(eJ n).peers=n.peers:=(iG n).2.1;rw[e];exact hp
theorem L3{q:Ms}(h:q.ents=[]):G9 [q]:=⟨by simp,fun m hm=>by rw[List.mem_singleton.1 hm,h];simp⟩
theorem V8{n:Nd}(h:OkW n)(m:Ms):G9 (eT n m):=by
 unfold eT
 split
 ·next hF=>
  simp only[gV,dS,Bool.and_eq_true,decide_eq_true_eq]at hF;obtain⟨_,_,_,_,_,_,ht2,_,_⟩:=hF;have h1:=(h.rc1 m ht2).1;generalize rc1 n m=N at h1 ⊢;have hp:=h1.b.p;unfold iQ
  split
  ·exact L3 rfl
  ·split
   ·unfold wZ
    split
    ·split
     ·exact BO (by show N.peers<=5;omega)
     ·exact wI
    ·exact wI
   ·split
    ·unfold mB
     split
     ·exact L3 rfl
     ·split
      ·exact wI
      ·split
       ·exact L3 rfl
       ·exact L3 rfl
    ·exact wI
 ·exact wI
theorem GdW.ivL{n:Nd}(h:GdW n)(m:Ms):G9 (ivL n m):=by
 rcases bq (bY n) with hB|hB
 ·rw[(zT m hB).2]
  exact V8 (h.ok hB) m
 ·rw[(xQ m hB).2]
  exact wI
def BxMw(W:World)(b:Nat)(m:Ms)(eo:Option Addr)(ec:Nat):Prop:=MsB W b m eo ec/\MsM W m eo ec
theorem BxMw.next{W W':World}{b:Nat}{m:Ms}{eo:Option Addr}{ec:Nat}(h:BxMw W b m eo ec)(hb:RB W W'):BxMw W' b m eo ec:=⟨vn h.1 hb,h.2.next hb⟩
end
section
open Go Go.RowKit
attribute [local go_sem ↓] Go.wp_at_zero Go.wp_at_succ
def CI(b base k:Nat)(ao:Option Addr)(cap:Nat)(w w':World)(e:Ending):Prop:=(∃ c,e=.returned (.int .i64 c))/\GA w' b base k ao cap/\Below base w w'
theorem nC(b base:Nat)(l:List Nq)(ao:Option Addr)(cap:Nat)(lo:Option Addr)(lc:Nat)(w:World)(hC:FJ w b base l ao cap):Calls Tryz.prog 99 #[.pointer (some ⟨b,0,none⟩),.slice lo 0 lc] w fun e w'=>e=.returned (.tuple #[])/\w'=w:=by
 obtain⟨q,eo,ec,hC,hP⟩:=hC;have c0:=VHas.cell hC.x (j:=0) (by omega);have c1:=VHas.cell hC.x (j:=1) (by omega);simp[lf]at c0 c1;go_enter Tryz.func99,Tryz.ntmps99;go_wp2
 go_loopw [4] (fun x wr=>x=.int .i64 0/\wr=w) (fun _ _=>0)
 case atStart=>exact⟨rfl,rfl⟩
 case round=>
  obtain⟨rfl,rfl⟩:=hrel;go_wp2;simp[bodyPost,results,Tryz.results99,go_sem]
def FL(p:Nat)(w0:World)(v:Value)(W:World):Prop:=∃ ms,NetV w0.heap.size ms v W/\(∀ m∈ms,MsW (p:Int) m)/\ms.length<=1000
theorem nD(b base:Nat)(l:List Nq)(q:List Mq)(ao:Option Addr)(cap:Nat)(eo:Option Addr)(ec:Nat)(v:Value)(w0 w:World)(hbs:base<=w0.heap.size)(hs:w0.heap.size<=w.heap.size)(hbb:base<=b)(hC:ClB w b base l q ao cap eo ec)(hq:∀ x,(Value.slice eo q.length ec).ownBlock=some x->x<w0.heap.size)(hP:ClP l q)(hv:FL l.length w0 v w):Calls Tryz.prog 99 #[.pointer (some ⟨b,0,none⟩),v] w fun e w'=>e=.returned (.tuple #[])/\FJ w' b base l ao cap/\Below base w w':=by
 obtain⟨ms,⟨lo,lc,l2,rfl,hl2,hN⟩,h2,h3⟩:=hv;refine qS b base w0.heap.size l q ao cap eo ec l2 lo lc w (Nat.le_trans hbs hs) hbb hbs hC hP hN ?_ (fun z hz=>h2 z.m (by rw[<-hl2];exact List.mem_map_of_mem hz)) (fun x e y e'=>?_)
 ·have:l2.length=ms.length:=by rw[<-hl2,List.length_map]
  omega
 ·have h5:=hq x e
  have h6:w0.heap.size<=y:=(GOwn.at hN.o (x:=y) (by subst e';rfl)).1;omega
def PpV(H:Nat)(n:Nd)(k:Int)(v:Value)(w:World):Prop:=∃ s,v=.tuple #[aX n s,.int .i64 k]/\NdO w H n s
theorem PpV.rb{H:Nat}{n:Nd}{k:Int}(v:Value)(w w':World)(h:PpV H n k v w)(hb:RB w w'):PpV H n k v w':=by
 obtain⟨s,e,h⟩:=h;exact⟨s,e,h.next hb⟩
theorem PpV.gr{H x:Nat}{n:Nd}{k:Int}{v:Value}{w w':World}(h:PpV H n k v w)(hg:w.grownBy w' (some x))(hx:aG w x 27):PpV H n k v w':=by
 obtain⟨s,e,h⟩:=h;exact⟨s,e,h.gr hg (fun y e=>by cases e;exact hx) (by decide) (by decide)⟩
theorem OkN.nep{n:Nd}(h:OkN n)(t:ByteArray):mC n t=S4 n t:=by unfold mC;rw[if_pos h.R]
theorem OkN.ne{n:Nd}(h:OkN n):pU n=T9 n/\yI n=DA n/\wW n=S5 n:=⟨by unfold pU;rw[if_pos h.R],by unfold yI;rw[if_pos h.R],by unfold wW;rw[if_pos h.R]⟩
theorem CJ{n:Nd}(h:OkN n):(T9 n).id=n.id/\(T9 n).peers=n.peers:=by
 unfold T9;rw[if_pos h.B]
 split
 ·exact⟨rfl,rfl⟩
 ·split
  ·exact⟨(iG (iP n)).1,(iG (iP n)).2.1⟩
  ·exact⟨rfl,rfl⟩
theorem DY{n:Nd}(h:OkN n):(DA n).length<=1000:=by
 unfold DA
 split
 ·split
  ·simp
  ·next b1=>
   have hp:=h.b.p
   split
   ·have e:=(iG (iP n)).2.1
    have h1:=gK (eJ (iP n)).id (fun k=>eK (eJ (iP n)) (iZ (eJ (iP n)) k) k) (eJ (iP n)).peers.toNat;have h2:(eJ (iP n)).peers=n.peers:=e;unfold wJ dU;omega
   ·have h1:=gK n.id (fun k=>gG (iP n) (k:Int)) n.peers.toNat
    omega
 ·simp
theorem CK{n:Nd}(h:OkN n)(t:ByteArray):(S4 n t).id=n.id/\(S4 n t).peers=n.peers:=by
 unfold S4;rw[if_pos h.B]
 split<;>exact⟨rfl,rfl⟩
end
section
open Go Go.RowKit
theorem CurAt.typed{w:World}{base c:Nat}{ao:Option Addr}{n cap:Nat}(h:CurAt w base c ao n cap):aG w c 83:=by
 obtain⟨i,x,_,_,hv⟩:=h.cur;exact hv.typed
end
section
open Go.RowKit
attribute [local go_sem ↓] Go.wp_at_zero Go.wp_at_succ
theorem rT{w w1 w2:World}{row:Option Nat}{B:Nat}(h:w.grownBy w1 row)(hb:Below B w1 w2)(hB:w.heap.size<=B):w.grownBy w2 row:=
 ⟨hb.os.trans h.os,hb.tape.trans h.tape,hb.output.trans h.output,Nat.le_trans h.size hb.size,fun k hk hne=>(hb.block k (by omega)).trans (h.block k hk hne)⟩
theorem eQ{w w':World}{b:Option Nat}(hb:Below w.heap.size w w'):w.grownBy w' b:=⟨hb.os,hb.tape,hb.output,hb.size,fun k hk _=>hb.block k hk⟩
def NOwnE(w:World)(base:Nat)(lo:Option Addr)(k lc:Nat):Prop:=∃ (T:Nat->Int) (X:Nat->ByteArray),(∀ j,j<k->(X j).size<=100)/\w.ownsRow base 47 2 (.slice lo k lc) k (bT T X k)/\∃ g,lo=some ⟨g,0,none⟩
theorem NOwnE.grown{w w':World}{base k lc x:Nat}{lo:Option Addr}(h:NOwnE w base lo k lc)(hg:w.grownBy w' (some x))(hx:x<base):NOwnE w' base lo k lc:=by
 obtain⟨T,X,hX,⟨hl,ho⟩,hg0⟩:=h;refine⟨T,X,hX,⟨hl,?_⟩,hg0⟩;rcases ho with h|⟨g,cap,cur,e,hb,hblk,h1,h2,h3,h4⟩
 ·exact .inl h
 ·exact .inr ⟨g,cap,cur,e,hb,by rw[hg.block g (Array.getElem?_eq_some_iff.1 hblk).1 (by simp;omega)];exact hblk,h1,h2,h3,h4⟩
theorem NOwnE.new(w:World):NOwnE (w.alloc (.cells #[] 47)) w.heap.size (some ⟨w.heap.size,0,none⟩) 0 0:=⟨fun _=>0,fun _=>ByteArray.empty,fun j hj=>by omega,fA w,_,rfl⟩
theorem NOwnE.add{w':World}{base k lc g:Nat}{T:Nat->Int}{X:Nat->ByteArray}{t:Int}{x:ByteArray}(hX:∀ j,j<k->(X j).size<=100)(hx:x.size<=100)(ho:w'.ownsRow base 47 2 (.slice (some ⟨g,0,none⟩) (k+1) lc) (k+1) (bT T X k++bT (fun _=>t) (fun _=>x) 1)):NOwnE w' base (some ⟨g,0,none⟩) (k+1) lc:=by
 refine⟨fun j=>if j<k then T j else t,fun j=>if j<k then X j else x,fun j hj=>?_,?_,_,rfl⟩
 ·by_cases h:j<k
  ·simp only[if_pos h];exact hX j h
  ·simp only[if_neg h];exact hx
 ·rw[<-lR (T:=T) (U:=fun _=>t) (X:=X) (Y:=fun _=>x) (a:=k) (b:=1) _ _ (fun j hj=>⟨by simp[hj],by simp[hj]⟩) (fun j hj=>⟨if_neg (by omega),if_neg (by omega)⟩)]
  exact ho
theorem iE{w:World}{base:Nat}{e:TypeId}{size:Nat}{v:Value}{k:Nat}{xs:List Value}(h:w.ownsRow base e size v k xs)(o:Obj):(w.alloc o).ownsRow base e size v k xs:=by
 obtain⟨hl,ho⟩:=h;refine⟨hl,?_⟩;rcases ho with h|⟨g,cap,cur,e,hb,hblk,h1,h2,h3,h4⟩
 ·exact .inl h
 ·exact .inr ⟨g,cap,cur,e,hb,by rw[((Below.refl w.heap.size w).alloc nl o).block g (Array.getElem?_eq_some_iff.1 hblk).1];exact hblk,h1,h2,h3,h4⟩
theorem nP(w:World)(t:Int)(x:ByteArray):NRow (w.alloc (.cells #[.int .i64 t,.string x] 47)) (some ⟨w.heap.size,0,none⟩) 1 (fun _=>t) (fun _=>x):=fun k hk=>by
 obtain rfl:k=0:=by omega
 exact⟨_,_,rfl,by simp[go_sem],by simp[go_sem]⟩
theorem CurAt.keep{w w':World}{base c B:Nat}{ao:Option Addr}{n cap:Nat}(h:CurAt w base c ao n cap)(hb:Below B w w')(hB:c<B):CurAt w' base c ao n cap:=by
 obtain⟨hge,hlen,hby,i,h0,h1,h2,hv⟩:=h;exact⟨hge,hlen,hby.below hb (by omega),i,h0,h1,h2,hv.below hb hB⟩
theorem fW(base c:Nat)(ao:Option Addr)(n cap:Nat)(w:World)(hC:CurAt w base c ao n cap):
  Calls Tryz.prog 57 #[.pointer (some ⟨c,0,none⟩)] w fun e w'=>∃ x:ByteArray,e=.returned (.string x)/\x.size<=100/\CurAt w' base c ao n cap/\w.grownBy w' (some c):=by
 go_enter Tryz.func57,Tryz.ntmps57;have hal:∀ o,Below w.heap.size w (w.alloc o):=fun o=>(Below.refl _ _).alloc nl o
 have hcl:=hC.lt
 go_wp2_with fail
 refine (aI base c ao n cap 6 (by omega) (by omega) _ (hC.next (hal _))).mono ?_;rintro e w1 ⟨x,rfl,hx,hC1,hg1⟩;have hx':x<6:=by omega
 have hb1:=hg1.block w.heap.size (by simp) (by simp;omega);rw[Go.Deep.blk_alloc_new]at hb1;have hgr:w.grownBy w1 (some c):=(eQ (hal _)).trans hg1
 have hcell:∀ (j:Nat) (v:Value),(#[.string { data:=#[110,111,110,101] },.string { data:=#[97,115,107,32,48,32,49] },.string { data:=#[97,115,107,32,49,32,48] },.string { data:=#[119,101,105,103,104,32,48,32,49,32,51] },.string { data:=#[119,101,105,103,104,32,48,32,49,32,55] },.string { data:=#[97,115,107,32,48,32,50] }]:Array Value)[j]?=some v->w1.cell? ⟨w.heap.size,j,none⟩=some v:=fun j v hj=>by
  simp only[World.cell?,hb1];exact hj
 have hcase:x=0\/x=1\/x=2\/x=3\/x=4\/x=5:=by omega
 clear hb1 hg1;rcases hcase with rfl|rfl|rfl|rfl|rfl|rfl
 ·have hq:=hcell 0 _ rfl
  clear hcell;go_wp2;go_ret;exact⟨_,rfl,by decide,hC1,hgr⟩
 ·have hq:=hcell 1 _ rfl
  clear hcell;go_wp2;go_ret;exact⟨_,rfl,by decide,hC1,hgr⟩
 ·have hq:=hcell 2 _ rfl
  clear hcell;go_wp2;go_ret;exact⟨_,rfl,by decide,hC1,hgr⟩
 ·have hq:=hcell 3 _ rfl
  clear hcell;go_wp2;go_ret;exact⟨_,rfl,by decide,hC1,hgr⟩
 ·have hq:=hcell 4 _ rfl
  clear hcell;go_wp2;go_ret;exact⟨_,rfl,by decide,hC1,hgr⟩
 ·have hq:=hcell 5 _ rfl
  clear hcell;go_wp2;go_ret;exact⟨_,rfl,by decide,hC1,hgr⟩
theorem B2(base c:Nat)(ao:Option Addr)(n cap:Nat)(w:World)(hC:CurAt w base c ao n cap):
  Calls Tryz.prog 100 #[.pointer (some ⟨c,0,none⟩)] w fun e w'=>∃ (lo:Option Addr) (k lc:Nat),e=.returned (.slice lo k lc)/\k<=6/\NOwnE w' w.heap.size lo k lc/\CurAt w' base c ao n cap/\w.grownBy w' (some c):=by
 have hal:∀ o,Below w.heap.size w (w.alloc o):=fun o=>(Below.refl _ _).alloc nl o
 have hcl:=hC.lt;go_enter Tryz.func100,Tryz.ntmps100
 go_wp2_with fail
 refine (aI base c ao n cap 7 (by omega) (by omega) _ (hC.next (hal _))).mono ?_;rintro e w1 ⟨x,rfl,hx,hC1,hg1⟩;have hO1:NOwnE w1 w.heap.size (some ⟨w.heap.size,0,none⟩) 0 0:=(NOwnE.new w).grown hg1 hcl;have hgr1:w.grownBy w1 (some c):=(eQ (hal _)).trans hg1;go_wp2
 go_loopw [3,4,5] (fun a t q wr=>∃ (lo:Option Addr) (k lc r:Nat) (tt:Int),a=.slice lo k lc/\t=.int .i64 tt/\q=.int .i64 r/\r+k<=6/\NOwnE wr w.heap.size lo k lc/\CurAt wr base c ao n cap/\w.grownBy wr (some c)) (fun _ _ q _=>(intOf q).toNat)
 case atStart=>exact⟨_,0,0,x,1,rfl,rfl,rfl,by omega,hO1,hC1,hgr1⟩
 case round=>
  obtain⟨lo,k,lc,r,tt,rfl,rfl,rfl,hrk,hO,hCr,hgr⟩:=hrel
  by_cases hz:0<r
  rotate_left
  ·obtain rfl:r=0:=by omega
   go_wp2;go_ret;exact⟨lo,k,lc,rfl,by omega,hO,hCr,hgr⟩
  have hz':(0:Int)<(r:Int):=by omega
  have hrw:IntKind.i64.wrap ((r:Int)-1)=((r-1:Nat):Int):=wi
  go_wp2_with fail
  refine (aI base c ao n cap 3 (by omega) (by omega) _ hCr).mono ?_;rintro e w2 ⟨y,rfl,hy,hC2,hg2⟩;have hO2:=hO.grown hg2 hcl;have hgr2:=hgr.trans hg2
  go_wp2_with fail
  refine (fW base c ao n cap _ hC2).mono ?_;rintro e w3 ⟨s3,rfl,hs3,hC3,hg3⟩;obtain⟨T,X,hX,hown,g,rfl⟩:=hO2.grown hg3 hcl;have hgr3:=hgr2.trans hg3;have hz3:=hgr3.size;clear hO hO2 hC2 hCr
  go_wp2_with (at_builtin;refine fC rfl _ _ rfl w.heap.size g k lc (bT T X k) rfl (iE hown _) (some ⟨w3.heap.size,0,none⟩) 1 1 (fun _=>_) (fun _=>s3) rfl (nP w3 _ _) (by omega) (by simp;omega) ?_;intro g' cap' w4 hown' hb4)
  have hb34:Below w.heap.size w3 w4:=((Below.refl w.heap.size w3).alloc hz3 _).trans hb4;have hC4:CurAt w4 base c ao n cap:=hC3.keep hb34 hcl;have hO4:=NOwnE.add hX hs3 hown';have hgr4:=rT hgr3 hb34 nl;clear hown hown' hC3 hb4;go_wp2
  go_roundw
  case rel=>exact⟨_,k+1,_,r-1,_,rfl,rfl,by go_num,by omega,hO4,hC4,hgr4⟩
  case measure=>simp[intOf];omega

end
end Go.Proofs.YtbabakgjkloabaaGreatDoor
